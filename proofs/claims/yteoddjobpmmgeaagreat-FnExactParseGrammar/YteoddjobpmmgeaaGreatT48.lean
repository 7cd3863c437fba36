import Derived.Test.YteoddjobpmmgeaaGreatT42
import Derived.Test.YteoddjobpmmgeaaGreatT18
import Derived.Test.YteoddjobpmmgeaaGreatT47
set_option linter.unusedVariables false
set_option linter.unusedSimpArgs false
namespace Go.Proofs.YteoddjobpmmgeaaGreat
section
open Go.RowKit
open M (OpD NodeD Gr)
def ParsedIs (t : Tx) (w : World) (e : Ending) (w' : World) : Prop :=
  ∃ code at_ g ra rc la lc, PRs t code at_ g ∧ e = .returned (.tuple #[.agg #[.slice ra g.nr rc, .slice la g.nb lc], .int .i64 code, .int .i64 at_]) ∧ GramA (Of w') w' ra la g ∧ Keep (fun _ => False) w w'
theorem zero_fin {t : Tx} {w w' : World} {code at_ : Int} (h : PRs t code at_ zeroG) (k : Keep (fun _ => False) w w') : ParsedIs t w (.returned (.tuple #[.agg #[.slice none 0 0, .slice none 0 0], .int .i64 code, .int .i64 at_])) w' :=
  ⟨code, at_, zeroG, none, 0, none, 0, h, rfl, ⟨.inl rfl, .inl rfl⟩, k⟩
theorem keep_set' {w W : World} (h : Keep (fun _ => False) w W) {b o : Nat} {v : Value} (hb : w.heap.size ≤ b) : Keep (fun _ => False) w (W.setCell ⟨b, o, none⟩ v) :=
  ⟨h.os, h.tape, h.output, by rw [size_set]; exact h.size, fun x hx hc => (Below.heap_setCell _ _ _ _ (fun e => by have e' : x = b := e; omega)).trans (h.block x hx hc)⟩
theorem find_neg (z : List Int) : ∀ (l : List (List Int)) (i : Nat), (z ∈ l → ∃ k, l[k]? = some z ∧ findF z l i = ((i + k : Nat) : Int)) ∧ (z ∉ l → findF z l i = -1)
  | [], i => ⟨(fun h => by cases h), fun _ => rfl⟩
  | y :: r, i => by
    obtain ⟨h1, h2⟩ := find_neg z r (i + 1)
    rw [findF]
    by_cases e : y = z
    · rw [if_pos e]
      subst e
      exact ⟨fun _ => ⟨0, rfl, rfl⟩, fun h => absurd (by simp) h⟩
    · rw [if_neg e]
      refine ⟨fun h => ?_, fun h => h2 (fun q => h (by simp [q]))⟩
      rcases List.mem_cons.1 h with q | q
      · exact absurd q.symm e
      · obtain ⟨k, a1, a2⟩ := h1 q
        exact ⟨k + 1, a1, by rw [a2]; congr 1; omega⟩
def pcAt (l : List Tok) (j : Nat) : Bool := if j = 0 then false else kAt l (j - 1) == 94
theorem refF_step {ns : List (List Int)} {l : List Tok} {j : Nat} {x : Tok} (hx : l[j]? = some x) : refF ns (pcAt l j) (l.drop j) = if x.kind = 110 ∧ pcAt l j = false ∧ x.nm ∉ ns then some x.at_ else refF ns (pcAt l (j + 1)) (l.drop (j + 1)) := by
  rw [drop_cons hx, refF]
  have e : (x.kind == 94) = pcAt l (j + 1) := by
    unfold pcAt
    rw [if_neg (by omega), Nat.add_sub_cancel, kAt_get hx]
  rw [e]
def orR (a b : Option Nat) : Option Nat := match a with | some p => some p | none => b
theorem refsF_cons (ns : List (List Int)) (q : Rl) (r : List Rl) : refsF ns (q :: r) = orR (refF ns false q.body.tk) (refsF ns r) := by
  rw [refsF]
  cases refF ns false q.body.tk <;> rfl
def lab6I (NS gb : Nat) (wE W7 : World) (ls : List (List Int)) (u : Value) (wr : World) : Prop :=
  ∃ (i : Nat) (G : Nat → Nat) (lv : Value) (cs : List GC), i ≤ NS ∧ u = .int .i64 ((i : Nat) : Int) ∧ GVo gb wE G wr (.slice none 0 0) lv [] cs ∧ cs.map (·.d) = (ls.take i).map (fun z => (⟨z, false, []⟩ : NL)) ∧ Keep (fun b => b = gb) W7 wr
def rul7I (NQ gb : Nat) (wE W7 : World) (ns ls : List (List Int)) (qs : List Rl) (u : Value) (wr : World) : Prop :=
  ∃ (i : Nat) (G : Nat → Nat) (rv lv : Value) (rs cs : List GC), i ≤ NQ ∧ u = .int .i64 ((i : Nat) : Int) ∧ GVo gb wE G wr rv lv rs cs ∧ rs.map (·.d) = rulesNL ns ls (qs.take i) ∧ cs.map (·.d) = labsNL ns ls (qs.take i) ∧ Keep (fun b => b = gb) W7 wr
set_option maxHeartbeats 4000000 in
set_option maxRecDepth 100000 in
theorem sparse_any (Q : Nat → Prop) (t : Tx) (a : Option Addr) (c : Nat) (w : World) (hT : TxA Q w a t) :
    Calls Tryz.prog 4 #[.slice a t.n c] w (ParsedIs t w) := by
  have hn := t.le
  have HT : Hid (TxA Q w a t) := hT
  clear hT
  go_enter Tryz.func4, Tryz.ntmps4
  by_cases hbig : 4000 < t.n
  · have hb1 : (t.n : Int) > 4000 := by omega
    have hb2 : decide ((t.n : Int) > 4000) = true := decide_eq_true hb1
    go_wp2
    refine bodyPost_ret (v := .tuple #[.agg #[.slice none 0 0, .slice none 0 0], .int .i64 7, .int .i64 0]) ?_ rfl ?_
    · simp [results, Tryz.f4, go_sem]
    · exact zero_fin (.inl ⟨hbig, rfl, rfl, rfl⟩) (Keep.alloc _ _ _)
  · have hb2 : decide ((t.n : Int) > 4000) = false := decide_eq_false (by omega)
    have hn4 : t.n ≤ 4000 := by omega
    go_wp2_with fail
    obtain ⟨w0, hw0⟩ : ∃ w0, w0 = w.alloc (.cells #[.slice none 0 0, .slice none 0 0] 26) := ⟨_, rfl⟩
    have HK0 : Hid (Keep (fun _ => False) w w0) := by rw [hw0]; exact Keep.alloc _ _ _
    have HR0 : Hid (w0.heap[w.heap.size]? = some (.cells #[.slice none 0 0, .slice none 0 0] 26)) := by rw [hw0]; exact blk_new w _ _ rfl
    rw [← hw0]
    clear hw0
    refine (l2tokens_any Q t a c w0 (HT.out.keep HK0.out)).mono ?_
    rintro e W1 ⟨ta, tc, L, rfl, hL, hTR⟩
    have HK1 : Hid (Keep (fun _ => False) w0 W1) := by obtain ⟨P, h⟩ := hTR; exact h.keep
    have htc : (toksT t).length ≤ tc := by
      obtain ⟨P, h⟩ := hTR
      have hl : L.length = (toksT t).length := by rw [← hL, List.length_map]
      rcases h.own with ⟨e, q, _⟩ | ⟨g, cap, e, hq, h3, h4, h5, h6⟩
      · omega
      · injection e with e1 e2 e3
        omega
    have HTK : Hid (TksA (New w0 W1) W1 ta (toksT t)) := by
      have := hTR.read
      rw [hL] at this
      exact this
    obtain ⟨hTF, hTW⟩ := toksT_ok t
    have hTL : (toksT t).length ≤ 8000 := by have := wtT_len (toksT t); omega
    have HTF : Hid (∀ x ∈ toksT t, TokF t.n x) := hTF
    have HTW : Hid (wtT (toksT t) ≤ 8000) := by show _ ≤ _; omega
    clear hTR hL hTF hTW
    obtain ⟨TL, hTLL⟩ : ∃ TL, TL = toksT t := ⟨_, rfl⟩
    have HEQ : Hid (toksT t = TL) := hTLL.symm
    rw [← hTLL] at htc HTK hTL HTF HTW ⊢
    clear hTLL
    obtain ⟨NL0, hNL⟩ : ∃ n, n = TL.length := ⟨_, rfl⟩
    have HNL : Hid (NL0 = TL.length) := hNL
    rw [← hNL] at htc hTL ⊢
    clear hNL
    go_wp2_with fail
    have hWR := l2wrong_any (New w0 W1) TL ta tc t.n W1 HTK.out (by have := HNL.out; omega)
    rw [← HNL.out] at hWR
    refine hWR.mono ?_
    clear hWR
    rintro e W ⟨rfl, hw⟩
    subst W
    obtain ⟨r1, r2⟩ := rdAll_any t.n (TL.length + 1) TL (by omega)
    cases hrd : rdAll t.n (TL.length + 1) TL with
    | inl p =>
      --{
      have hwr := r1 p hrd
      have HP : Hid (PRs t 5 (p : Nat) zeroG) := .inr ⟨hn4, .inl ⟨p, by rw [HEQ.out]; exact hrd, rfl, rfl, rfl⟩⟩
      rw [hwr]
      have hp0 : decide ((p : Int) ≥ 0) = true := decide_eq_true (by omega)
      have hp1 : (0 : Int) ≤ (p : Int) := by omega
      have cR := HK1.out.block w.heap.size (by have := (Array.getElem?_eq_some_iff.1 HR0.out).1; exact this) (fun q => q)
      rw [HR0.out] at cR
      have c0 : W1.cell? ⟨w.heap.size, 0, none⟩ = some (.slice none 0 0) := blk_cell cR rfl
      have c1 : W1.cell? ⟨w.heap.size, 1, none⟩ = some (.slice none 0 0) := blk_cell cR rfl
      have f0 : W1.frozen? ⟨w.heap.size, 0, none⟩ = false := blk_frz cR
      have f1 : W1.frozen? ⟨w.heap.size, 1, none⟩ = false := blk_frz cR
      clear r1 r2 hrd hwr cR
      go_wp2
      refine bodyPost_ret (v := .tuple #[.agg #[.slice none 0 0, .slice none 0 0], .int .i64 5, .int .i64 (p : Int)]) ?_ rfl ?_
      · simp [results, Tryz.f4, go_sem, *]
      · exact zero_fin HP.out (keep_set' (keep_set' (HK0.out.trans HK1.out) (Nat.le_refl _)) (Nat.le_refl _))
      --}
    | inr qs =>
      obtain ⟨hok, hTq, hwr⟩ := r2 qs hrd
      rw [hwr]
      have HOK : Hid (∀ q ∈ qs, q.ok) := hok
      have HTQ : Hid (TL = qs.flatMap Rl.tk) := hTq
      have HRD : Hid (rdAll t.n (TL.length + 1) TL = .inr qs) := hrd
      clear r1 r2 hrd hwr hok hTq
      go_wp2_with fail
      have hRL := l2rules_any (New w0 W1) qs HOK.out ta tc NL0 W1 (by rw [HNL.out, HTQ.out]) (by rw [← HTQ.out]; exact HTK.out) (by omega) htc
      refine hRL.mono ?_
      clear hRL
      rintro e W2 ⟨ra, rc, rfl, hRl, hK2⟩
      have HKW : Hid (Keep (fun _ => False) w W2) := (HK0.out.trans HK1.out).trans hK2
      have HR2 : Hid (W2.heap[w.heap.size]? = some (.cells #[.slice none 0 0, .slice none 0 0] 26)) := by
        have h1 := (Array.getElem?_eq_some_iff.1 HR0.out).1
        have h2 := HK1.out.block w.heap.size h1 (fun q => q)
        have h3 := hK2.block w.heap.size (Nat.lt_of_lt_of_le h1 HK1.out.size) (fun q => q)
        exact (h3.trans h2).trans HR0.out
      have HRL : Hid (RlsA (New w0 W1) W2 ra qs) := hRl
      have HPR : Hid (∀ code at_ g, TailRes t.n qs code at_ g → PRs t code at_ g) := fun code at_ g h => .inr ⟨hn4, .inr ⟨qs, by rw [HEQ.out]; exact HRD.out, h⟩⟩
      have HTF2 : Hid (∀ q ∈ qs, TokF t.n q.name ∧ ∀ x ∈ q.body.tk, TokF t.n x) := fun q hq => by
        have hm : ∀ x ∈ q.tk, TokF t.n x := fun x hx => HTF.out x (by rw [HTQ.out]; exact List.mem_flatMap.2 ⟨q, hq, hx⟩)
        exact ⟨hm _ (List.mem_of_getElem? q.name_at), fun x hx => hm x (by unfold Rl.tk; simp [hx])⟩
      have HTW2 : Hid (wtT (qs.flatMap Rl.tk) ≤ 8000) := by rw [← HTQ.out]; exact HTW.out
      have hQL : qs.length ≤ 8000 := by
        have h1 := wtT_len (qs.flatMap Rl.tk)
        have h2 : ∀ l : List Rl, l.length ≤ (l.flatMap Rl.tk).length := fun l => by
          induction l with
          | nil => simp
          | cons x l ih => have := x.len; simp only [List.flatMap_cons, List.length_append, List.length_cons]; omega
        have h3 := h2 qs
        have := HTW2.out
        omega
      clear hK2 hRl HK1 HR0 HTK HTF HTW HNL HEQ HTQ HK0
      obtain ⟨NQ, hNQ⟩ : ∃ n, n = qs.length := ⟨_, rfl⟩
      have HNQ : Hid (NQ = qs.length) := hNQ
      rw [← hNQ] at hQL ⊢
      clear hNQ
      go_wp2
      go_loopw [8] (fun v8 wr => ∃ i m, i ≤ NQ ∧ v8 = .int .i64 ((i : Nat) : Int) ∧ wr = W2.drewN m ∧ dupF (qs.take i) (qs.drop i) = dupF [] qs) (fun v8 _ => NQ - (intOf v8).toNat)
      case atStart => exact ⟨0, 0, Nat.zero_le _, rfl, rfl, rfl⟩
      case round =>
        obtain ⟨i, m, hi, rfl, rfl, hD⟩ := hrel
        have HD : Hid (dupF (qs.take i) (qs.drop i) = dupF [] qs) := hD
        clear hD
        by_cases hlt : i < NQ
        · have hlt' : (i : Int) < NQ := by omega
          obtain ⟨q, hq⟩ : ∃ q, qs[i]? = some q := ⟨_, List.getElem?_eq_getElem (by have := HNQ.out; omega)⟩
          obtain ⟨b, off, rfl, hcell⟩ := HRL.out.at (i := i) (by have := HNQ.out; omega)
          have HCQ : Hid (∀ j s, qs[j]? = some s → RlC (New w0 W1) W2 b (off + j * 6) s) := hcell
          have HQ : Hid (qs[i]? = some q) := hq
          have HD2 : Hid ((if (qs.take i).any (fun s => sameR s q) then some q.name.at_ else dupF (qs.take (i + 1)) (qs.drop (i + 1))) = dupF [] qs) := by
            have h := HD.out
            rw [drop_cons hq, dupF] at h
            have e : qs.take i ++ [q] = qs.take (i + 1) := by rw [List.take_add_one, hq]; rfl
            rw [e] at h
            exact h
          clear hcell hq HD
          go_wp2
          go_loopw [9] (fun v9 wr => ∃ j m, j ≤ i ∧ v9 = .int .i64 ((j : Nat) : Int) ∧ wr = W2.drewN m ∧ (qs.take j).any (fun s => sameR s q) = false) (fun v9 _ => i - (intOf v9).toNat)
          case atStart => exact ⟨0, m, Nat.zero_le _, rfl, rfl, rfl⟩
          case round =>
            obtain ⟨j, m2, hj, rfl, rfl, hA⟩ := hrel
            have HA : Hid ((qs.take j).any (fun s => sameR s q) = false) := hA
            clear hA
            --{
            by_cases hjl : j < i
            · have hjl' : (j : Int) < i := by omega
              have hjN : (j : Int) < NQ := by omega
              obtain ⟨s, hs⟩ : ∃ s, qs[j]? = some s := ⟨_, List.getElem?_eq_getElem (by have := HNQ.out; omega)⟩
              obtain ⟨V, hV⟩ : ∃ V, W2.drewN m2 = V := ⟨_, rfl⟩
              have HVN : Hid (∀ n, ∃ q, V.drewN n = W2.drewN q) := fun n => ⟨m2 + n, by rw [← hV, World.drewN_drewN]⟩
              have HVK : Hid (Keep (fun _ => False) W2 V) := by rw [← hV]; exact keep_drewN W2 m2
              have HBV : Hid (Below W2.heap.size W2 V) := by rw [← hV]; exact below_drewN (Below.refl _ W2) m2
              rw [hV]
              clear hV
              obtain ⟨cq0, ctq, _⟩ := HCQ.out i q HQ.out
              obtain ⟨cs0, cts, _⟩ := HCQ.out j s hs
              obtain ⟨qa, qc, q2, q2'⟩ := ctq.nm
              obtain ⟨sa, sc, s2, s2'⟩ := cts.nm
              have k0 := cell_on cq0 HBV.out
              have k1 := cell_on q2 HBV.out
              have k2 := cell_on ctq.at_ HBV.out
              have k3 := cell_on cs0 HBV.out
              have k4 := cell_on s2 HBV.out
              have HY : ∀ n, (convert 22 9 (.slice qa q.name.nm.length qc)).run Tryz.prog (V.drewN n) = .ok (.string (str q.name.nm.length (lf q.name.nm))) (V.drewN n) := fun n => conv_run _ qa q.name.nm.length qc (lf q.name.nm) _ ((q2'.later HBV.out).later (below_drewN (Below.refl _ V) n))
              have HZ : ∀ n, (convert 22 9 (.slice sa s.name.nm.length sc)).run Tryz.prog (V.drewN n) = .ok (.string (str s.name.nm.length (lf s.name.nm))) (V.drewN n) := fun n => conv_run _ sa s.name.nm.length sc (lf s.name.nm) _ ((s2'.later HBV.out).later (below_drewN (Below.refl _ V) n))
              have HST : Hid (str q.name.nm.length (lf q.name.nm) = str s.name.nm.length (lf s.name.nm) ↔ q.name.nm = s.name.nm) := str_lists (HTF2.out q (List.mem_of_getElem? HQ.out)).1.byt (HTF2.out s (List.mem_of_getElem? hs)).1.byt
              have HSM : Hid (sameR s q = (s.car.isSome == q.car.isSome && decide (s.name.nm = q.name.nm))) := rfl
              have HNX : Hid (sameR s q = false → (qs.take (j + 1)).any (fun s => sameR s q) = false) := fun h => by
                rw [List.take_add_one, hs]
                simp only [Option.toList_some, List.any_append, HA.out, Bool.false_or, List.any_cons, List.any_nil, Bool.or_false]
                exact h
              have HFD : Hid (sameR s q = true → dupF [] qs = some q.name.at_) := fun h => by
                have h2 := HD2.out
                rw [if_pos (List.any_eq_true.2 ⟨s, List.mem_of_getElem? (i := j) (by rw [List.getElem?_take_of_lt hjl]; exact hs), h⟩)] at h2
                exact h2.symm
              generalize hsy : str q.name.nm.length (lf q.name.nm) = sy at *
              generalize hsz : str s.name.nm.length (lf s.name.nm) = sz at *
              clear hsy hsz cq0 ctq cs0 cts q2 q2' s2 s2' hs HA
              generalize hbq : q.car.isSome = bq at *
              generalize hbs : s.car.isSome = bs at *
              clear hbq hbs
              by_cases hsame : sameR s q = true
              · have HF : Hid (dupF [] qs = some q.name.at_) := HFD.out hsame
                have hparts := HSM.out
                rw [hsame] at hparts
                simp only [Bool.true_eq, Bool.and_eq_true, beq_iff_eq, decide_eq_true_eq] at hparts
                obtain ⟨e1, e2⟩ := hparts
                subst e1
                obtain rfl : sy = sz := HST.out.2 e2.symm
                have cR := HVK.out.block w.heap.size (Array.getElem?_eq_some_iff.1 HR2.out).1 (fun q => q)
                rw [HR2.out] at cR
                have c0 : V.cell? ⟨w.heap.size, 0, none⟩ = some (.slice none 0 0) := blk_cell cR rfl
                have c1 : V.cell? ⟨w.heap.size, 1, none⟩ = some (.slice none 0 0) := blk_cell cR rfl
                have f0 : V.frozen? ⟨w.heap.size, 0, none⟩ = false := blk_frz cR
                have f1 : V.frozen? ⟨w.heap.size, 1, none⟩ = false := blk_frz cR
                have HFI : Hid (∀ V', Keep (fun _ => False) V V' → ParsedIs t w (.returned (.tuple #[.agg #[.slice none 0 0, .slice none 0 0], .int .i64 6, .int .i64 (q.name.at_ : Int)])) ((V'.setCell ⟨w.heap.size, 0, none⟩ (.slice none 0 0)).setCell ⟨w.heap.size, 1, none⟩ (.slice none 0 0))) := fun V' k =>
                  zero_fin (HPR.out _ _ _ (by unfold TailRes; rw [HF.out]; exact ⟨rfl, rfl, rfl⟩)) (keep_set' (keep_set' ((HKW.out.trans HVK.out).trans k) (Nat.le_refl _)) (Nat.le_refl _))
                clear e2 cR hsame HST HSM HNX HFD HF
                cases bs
                all_goals (
                  go_upto_region 14 with fail
                  go_quiet (fail)
                  go_upto_region 15 with fail
                  go_region
                  go_wp2
                  refine bodyPost_ret (v := .tuple #[.agg #[.slice none 0 0, .slice none 0 0], .int .i64 6, .int .i64 (q.name.at_ : Int)]) ?_ rfl ?_
                  · simp [results, Tryz.f4, go_sem, *]
                  · exact HFI.out _ (keep_drewN V _))
              · have hsame : sameR s q = false := by simpa using hsame
                have HN2 : Hid ((qs.take (j + 1)).any (fun s => sameR s q) = false) := HNX.out hsame
                have hparts := HSM.out
                rw [hsame] at hparts
                have HRR : Hid (∀ n, ∃ m, V.drewN n = W2.drewN m) := HVN.out
                by_cases hbb : bs = bq
                · subst hbb
                  simp only [BEq.rfl, Bool.true_and, Bool.false_eq, decide_eq_false_iff_not] at hparts
                  have hs : ¬ sy = sz := fun q => hparts (HST.out.1 q).symm
                  have hs' : (sy.toList == sz.toList) = false := by
                    rw [beq_eq_false_iff_ne]
                    exact fun q => hs (ba_ext q)
                  clear hparts hsame HST HSM HNX HFD
                  cases bs
                  all_goals (
                    go_upto_region 14 with fail
                    go_quiet (fail)
                    go_wp2
                    obtain ⟨m3, hm3⟩ := HRR.out nq
                    exact ⟨⟨j + 1, m3, hjl, by simp, hm3, HN2.out⟩, by simp [intOf]; omega⟩)
                · clear hparts hsame HST HSM HNX HFD
                  cases bs <;> cases bq
                  all_goals first
                    | exact absurd rfl hbb
                    | (clear hbb
                       go_upto_region 14 with fail
                       go_quiet (fail)
                       go_wp2
                       obtain ⟨m3, hm3⟩ := HRR.out nq
                       exact ⟨⟨j + 1, m3, hjl, by simp, hm3, HN2.out⟩, by simp [intOf]; omega⟩)
            · have hjl' : ¬ (j : Int) < i := by omega
              obtain rfl : j = i := by omega
              have HD3 : Hid (dupF (qs.take (j + 1)) (qs.drop (j + 1)) = dupF [] qs) := by
                have h := HD2.out
                rw [if_neg (by rw [HA.out]; decide)] at h
                exact h
              go_wp2
              go_roundw
              case rel => exact ⟨j + 1, m2, hlt, by go_num, rfl, HD3.out⟩
              case measure => simp [intOf]; omega
            --}
        · have hlt' : ¬ (i : Int) < NQ := by omega
          have HDN : Hid (dupF [] qs = none) := by
            have h := HD.out
            rw [List.drop_of_length_le (by have := HNQ.out; omega), dupF] at h
            exact h.symm
          obtain ⟨W3, hW3⟩ : ∃ V, W2.drewN m = V := ⟨_, rfl⟩
          have HK3 : Hid (Keep (fun _ => False) W2 W3) := by rw [← hW3]; exact keep_drewN W2 m
          rw [hW3]
          clear hW3
          have HKW3 : Hid (Keep (fun _ => False) w W3) := HKW.out.trans HK3.out
          have HR3 : Hid (W3.heap[w.heap.size]? = some (.cells #[.slice none 0 0, .slice none 0 0] 26)) := (HK3.out.block w.heap.size (Array.getElem?_eq_some_iff.1 HR2.out).1 (fun q => q)).trans HR2.out
          have HRL3 : Hid (RlsA (New w0 W1) W3 ra qs) := HRL.out.later HK3.out.bel
          clear HKW HR2 HRL HK3 HD
          go_wp2
          go_loopw [10, 11] (fun v u wr => ∃ (i : Nat) (L : List NC), i ≤ NQ ∧ u = .int .i64 ((i : Nat) : Int) ∧ L.length ≤ i ∧ L.map (·.z) = namesOf (qs.take i) ∧ NmR W3 wr v L) (fun _ u _ => NQ - (intOf u).toNat)
          case atStart => exact ⟨0, [], Nat.zero_le _, rfl, Nat.le_refl _, rfl, NmR.nil (Keep.refl _ _)⟩
          case round =>
            obtain ⟨i, L, hi, rfl, hLi, hL, hR⟩ := hrel
            obtain ⟨va, vc, rfl⟩ := hR.shape
            have HL : Hid (L.map (·.z) = namesOf (qs.take i)) := hL
            have HR : Hid (NmR W3 wr (.slice va L.length vc) L) := hR
            clear hL hR
            by_cases hlt : i < NQ
            ·
              --{
              have hlt' : (i : Int) < NQ := by omega
              obtain ⟨q, hq⟩ : ∃ q, qs[i]? = some q := ⟨_, List.getElem?_eq_getElem (by have := HNQ.out; omega)⟩
              obtain ⟨b, off, rfl, hcell⟩ := HRL3.out.at (i := i) (by have := HNQ.out; omega)
              obtain ⟨cq0, ctq, _⟩ := hcell i q hq
              obtain ⟨qa, qc, q2, q2'⟩ := ctq.nm
              have HI : Hid (Ints (New w0 W1) .u8 W3 qa q.name.nm.length (lf q.name.nm)) := q2'
              have kb := HR.out.keep.bel
              have k0 := cell_on cq0 kb
              have k1 := cell_on q2 kb
              have HNX : Hid (namesOf (qs.take (i + 1)) = namesOf (qs.take i) ++ (if q.car.isSome then [] else [q.name.nm])) := by
                show _ = _
                rw [List.take_add_one, hq]
                unfold namesOf
                rw [List.filter_append, List.map_append]
                cases hc : q.car <;> simp [hc]
              clear hcell cq0 ctq q2 q2' kb hq
              cases hcar : q.car with
              | none =>
                rw [hcar] at k0
                simp only [Option.isSome_none] at k0
                have HN2 : Hid ((L ++ [(⟨q.name.nm, qa, qc⟩ : NC)]).map (·.z) = namesOf (qs.take (i + 1))) := by
                  have := HNX.out
                  rw [hcar] at this
                  rw [this, List.map_append, HL.out]
                  rfl
                clear HNX
                go_wp2_with (at_builtin; refine nmA rfl _ _ rfl rfl rfl (y := ⟨q.name.nm, qa, qc⟩) HR.out (Keep.refl _ _) HI.out (by omega) ?_; intro a5 c5 W5 HR5)
                go_roundw
                case rel => exact ⟨i + 1, _, hlt, by go_num, by simp; omega, HN2.out, HR5.out⟩
                case measure => simp [intOf]; omega
              | some cc =>
                rw [hcar] at k0
                simp only [Option.isSome_some] at k0
                have HN2 : Hid (L.map (·.z) = namesOf (qs.take (i + 1))) := by
                  have := HNX.out
                  rw [hcar] at this
                  exact HL.out.trans (by rw [this]; simp)
                clear HNX
                go_wp2
                go_roundw
                case rel => exact ⟨i + 1, L, hlt, by go_num, by omega, HN2.out, HR.out⟩
                case measure => simp [intOf]; omega
              --}
            · have hlt' : ¬ (i : Int) < NQ := by omega
              have HNS : Hid (L.map (·.z) = namesOf qs) := by
                have := HL.out
                rw [List.take_of_length_le (by have := HNQ.out; omega)] at this
                exact this
              rename World => W4
              have HKW4 : Hid (Keep (fun _ => False) w W4) := HKW3.out.trans HR.out.keep
              have HR4 : Hid (W4.heap[w.heap.size]? = some (.cells #[.slice none 0 0, .slice none 0 0] 26)) := (HR.out.keep.block w.heap.size (Array.getElem?_eq_some_iff.1 HR3.out).1 (fun q => q)).trans HR3.out
              have HRL4 : Hid (RlsA (New w0 W1) W4 ra qs) := HRL3.out.later HR.out.keep.bel
              have HNM : Hid (NmsA (fun b => b < W4.heap.size) W4 va (namesOf qs)) := by
                have := HR.out.read
                rw [HNS.out] at this
                exact this
              have HNB : Hid (∀ y ∈ namesOf qs, BytL y) := fun y hy => by
                unfold namesOf at hy
                obtain ⟨q, hq, rfl⟩ := List.mem_map.1 hy
                exact (HTF2.out q (List.mem_filter.1 hq).1).1.byt
              obtain ⟨NN, hNN⟩ : ∃ n, n = L.length := ⟨_, rfl⟩
              have HNN : Hid (NN = (namesOf qs).length) := by
                show NN = _
                rw [hNN, ← HNS.out, List.length_map]
              have hNN8 : NN ≤ 8000 := by omega
              rw [← hNN]
              clear hNN HKW3 HR3 HRL3 HR HL HNS hLi
              go_wp2
              go_loopw [12] (fun u wr => ∃ i : Nat, i ≤ NQ ∧ u = .int .i64 ((i : Nat) : Int) ∧ Keep (fun _ => False) W4 wr ∧ refsF (namesOf qs) (qs.drop i) = refsF (namesOf qs) qs) (fun u _ => NQ - (intOf u).toNat)
              case atStart => exact ⟨0, Nat.zero_le _, rfl, Keep.refl _ _, rfl⟩
              case round =>
                obtain ⟨i, hi, rfl, hK, hF⟩ := hrel
                have HK : Hid (Keep (fun _ => False) W4 wr) := hK
                have HF : Hid (refsF (namesOf qs) (qs.drop i) = refsF (namesOf qs) qs) := hF
                clear hK hF
                by_cases hlt : i < NQ
                ·
                  --{
                  have hlt' : (i : Int) < NQ := by omega
                  obtain ⟨q, hq⟩ : ∃ q, qs[i]? = some q := ⟨_, List.getElem?_eq_getElem (by have := HNQ.out; omega)⟩
                  obtain ⟨b, off, rfl, hcell⟩ := HRL4.out.at (i := i) (by have := HNQ.out; omega)
                  obtain ⟨_, _, ba, bc, c5, hTB, _⟩ := hcell i q hq
                  have HTB : Hid (TksA (New w0 W1) W4 ba q.body.tk) := hTB
                  have HC5 : Hid (W4.cell? ⟨b, off + i * 6 + 5, none⟩ = some (.slice ba q.body.tk.length bc)) := c5
                  have HF2 : Hid (orR (refF (namesOf qs) (pcAt q.body.tk 0) (q.body.tk.drop 0)) (refsF (namesOf qs) (qs.drop (i + 1))) = refsF (namesOf qs) qs) := by
                    have h := HF.out
                    rw [drop_cons hq, refsF_cons] at h
                    exact h
                  have HTQ : Hid (∀ x ∈ q.body.tk, TokF t.n x) := (HTF2.out q (List.mem_of_getElem? hq)).2
                  obtain ⟨NB, hNB⟩ : ∃ n, n = q.body.tk.length := ⟨_, rfl⟩
                  have HNBB : Hid (NB = q.body.tk.length) := hNB
                  have hNB8 : NB ≤ 8000 := by
                    have h1 := wtT_len (qs.flatMap Rl.tk)
                    have h2 : q.tk.length ≤ (qs.flatMap Rl.tk).length := by
                      obtain ⟨l1, l2, rfl⟩ := List.append_of_mem (List.mem_of_getElem? hq)
                      simp
                      omega
                    have h3 := q.len
                    have h4 := HTW2.out
                    omega
                  rw [← hNB] at HC5
                  clear hcell c5 hTB hq HF hNB
                  go_wp2
                  go_loopw [13] (fun u wr => ∃ j : Nat, j ≤ NB ∧ u = .int .i64 ((j : Nat) : Int) ∧ Keep (fun _ => False) W4 wr ∧ orR (refF (namesOf qs) (pcAt q.body.tk j) (q.body.tk.drop j)) (refsF (namesOf qs) (qs.drop (i + 1))) = refsF (namesOf qs) qs) (fun u _ => NB - (intOf u).toNat)
                  case atStart => exact ⟨0, Nat.zero_le _, rfl, HK.out, HF2.out⟩
                  case round =>
                    obtain ⟨j, hj, rfl, hK2, hF3⟩ := hrel
                    have HK2 : Hid (Keep (fun _ => False) W4 wr) := hK2
                    have HF3 : Hid (orR (refF (namesOf qs) (pcAt q.body.tk j) (q.body.tk.drop j)) (refsF (namesOf qs) (qs.drop (i + 1))) = refsF (namesOf qs) qs) := hF3
                    have d5 := cell_on HC5.out hK2.bel
                    clear hK2 hF3 HF2 HK
                    by_cases hjl : j < NB
                    · have hjl' : (j : Int) < NB := by omega
                      obtain ⟨x, hx⟩ : ∃ x, q.body.tk[j]? = some x := ⟨_, List.getElem?_eq_getElem (by have := HNBB.out; omega)⟩
                      obtain ⟨bb, bo, rfl, hcell⟩ := HTB.out.at (i := j) (by have := HNBB.out; omega)
                      have hC := hcell j x hx
                      obtain ⟨xa, xc, x2, x2'⟩ := hC.nm
                      obtain ⟨ya, yc, x3, _⟩ := hC.set
                      have HXI : Hid (Ints (New w0 W1) .u8 W4 xa x.nm.length (lf x.nm)) := x2'
                      have HXB : Hid (BytL x.nm) := (HTQ.out x (List.mem_of_getElem? hx)).byt
                      have e0 := cell_on hC.kind HK2.out.bel
                      have e1 := cell_on hC.at_ HK2.out.bel
                      have e2 := cell_on x2 HK2.out.bel
                      have e3 := cell_on x3 HK2.out.bel
                      have HST0 := HF3.out
                      rw [refF_step hx] at HST0
                      have HPV : Hid (∀ p y, j = p + 1 → q.body.tk[p]? = some y → wr.cell? ⟨bb, bo + p * 4, none⟩ = some (.int .u8 y.kind)) := fun p y _ hy => cell_on (hcell p y hy).kind HK2.out.bel
                      have HSTx : Hid (orR (if x.kind = 110 ∧ pcAt q.body.tk j = false ∧ x.nm ∉ namesOf qs then some x.at_ else refF (namesOf qs) (pcAt q.body.tk (j + 1)) (q.body.tk.drop (j + 1))) (refsF (namesOf qs) (qs.drop (i + 1))) = refsF (namesOf qs) qs) := HST0
                      have HST : Hid ((if x.kind = 110 ∧ pcAt q.body.tk j = false ∧ x.nm ∉ namesOf qs then some x.at_ else orR (refF (namesOf qs) (pcAt q.body.tk (j + 1)) (q.body.tk.drop (j + 1))) (refsF (namesOf qs) (qs.drop (i + 1)))) = refsF (namesOf qs) qs) := by
                        have h := HSTx.out
                        show _ = _
                        rw [← h]
                        split <;> rfl
                      have lt5 : b < wr.heap.size := lt_of_cell d5
                      have ltx : bb < wr.heap.size := lt_of_cell e0
                      clear hcell hC x2 x2' x3 HST0 HSTx HF3
                      obtain ⟨V, hV⟩ : ∃ V, V = wr.alloc (.cells #[.int .u8 x.kind, .int .i64 x.at_, .slice xa x.nm.length xc, .slice ya x.set.length yc] 42) := ⟨_, rfl⟩
                      have HVT : Hid (V.heap[wr.heap.size]? = some (.cells #[.int .u8 x.kind, .int .i64 x.at_, .slice xa x.nm.length xc, .slice ya x.set.length yc] 42)) := by rw [hV]; exact blk_new wr _ _ rfl
                      have HKV : Hid (Keep (fun _ => False) W4 V) := by rw [hV]; exact HK2.out.trans (Keep.alloc _ _ _)
                      have HBV4 : Hid (Below W4.heap.size W4 V) := HKV.out.bel
                      have HVV : Hid (V = wr.alloc (.cells #[.int .u8 x.kind, .int .i64 x.at_, .slice xa x.nm.length xc, .slice ya x.set.length yc] 42)) := hV
                      clear hV
                      by_cases hk110 : x.kind = 110
                      · have HK110 : Hid (x.kind = 110) := hk110
                        by_cases hj0 : j = 0
                        · have HPC : Hid (pcAt q.body.tk j = false) := by rw [hj0]; rfl
                          have hjb : ((j : Int) == 0) = true := by simp [hj0]
                          rw [hk110] at e0 HVT HVV
                          clear hj0 hk110
                          go_upto_region 30 with fail
                          rw [← HVV.out]
                          have hne1 : ¬ wr.heap.size = w.heap.size := by have h1 : w.heap.size < W4.heap.size := (Array.getElem?_eq_some_iff.1 HR4.out).1; have h2 := HK2.out.size; omega
                          have hne2 : ¬ w.heap.size = wr.heap.size := fun q => hne1 q.symm
                          have v2 : V.cell? ⟨wr.heap.size, 2, none⟩ = some (.slice xa x.nm.length xc) := blk_cell HVT.out rfl
                          have HFC : Hid (Calls Tryz.prog 15 #[.slice va NN vc, .slice xa x.nm.length xc] V fun e w' => e = .returned (.int .i64 (findF x.nm (namesOf qs) 0)) ∧ ∃ m, w' = V.drewN m) := by
                            have h := l2find_any (fun b => b < W4.heap.size) (New w0 W1) (namesOf qs) x.nm va xa vc xc V (HNM.out.later HBV4.out) (HXI.out.later HBV4.out) HNB.out HXB.out (by have := HNN.out; omega)
                            rw [← HNN.out] at h
                            exact h
                          by_cases hmem : x.nm ∈ namesOf qs
                          · obtain ⟨k, _, hk⟩ := (find_neg x.nm (namesOf qs) 0).1 hmem
                            rw [hk] at HFC
                            have HN2 : Hid (orR (refF (namesOf qs) (pcAt q.body.tk (j + 1)) (q.body.tk.drop (j + 1))) (refsF (namesOf qs) (qs.drop (i + 1))) = refsF (namesOf qs) qs) := by
                              have h := HST.out
                              rw [if_neg (fun q => q.2.2 hmem)] at h
                              exact h
                            have hk0 : decide (((0 + k : Nat) : Int) < 0) = false := decide_eq_false (by omega)
                            have hk1 : ¬ ((0 + k : Nat) : Int) < 0 := by omega
                            clear hmem hk HST
                            generalize hkk : 0 + k = k0 at *
                            clear hkk
                            go_wp2_with fail
                            refine HFC.out.mono ?_
                            rintro e W ⟨rfl, m, rfl⟩
                            have HKM : Hid (Keep (fun _ => False) W4 (V.drewN m)) := HKV.out.trans (keep_drewN V m)
                            go_wp2
                            go_roundw
                            case rel => exact ⟨j + 1, hjl, by go_num, HKM.out, HN2.out⟩
                            case measure => simp [intOf]; omega
                          · rw [(find_neg x.nm (namesOf qs) 0).2 hmem] at HFC
                            have HF : Hid (refsF (namesOf qs) qs = some x.at_) := by
                              have h := HST.out
                              rw [if_pos ⟨HK110.out, HPC.out, hmem⟩] at h
                              exact h.symm
                            clear hmem HST
                            go_wp2_with fail
                            refine HFC.out.mono ?_
                            rintro e W ⟨rfl, m, rfl⟩
                            obtain ⟨V2, hV2⟩ : ∃ V2, V.drewN m = V2 := ⟨_, rfl⟩
                            have HKM : Hid (Keep (fun _ => False) V V2) := by rw [← hV2]; exact keep_drewN V m
                            rw [hV2]
                            clear hV2
                            have cT := HKM.out.block wr.heap.size (Array.getElem?_eq_some_iff.1 HVT.out).1 (fun q => q)
                            rw [HVT.out] at cT
                            have t1 : V2.cell? ⟨wr.heap.size, 1, none⟩ = some (.int .i64 x.at_) := blk_cell cT rfl
                            have cR := (HKV.out.trans HKM.out).block w.heap.size (Array.getElem?_eq_some_iff.1 HR4.out).1 (fun q => q)
                            rw [HR4.out] at cR
                            have c0 : V2.cell? ⟨w.heap.size, 0, none⟩ = some (.slice none 0 0) := blk_cell cR rfl
                            have c1 : V2.cell? ⟨w.heap.size, 1, none⟩ = some (.slice none 0 0) := blk_cell cR rfl
                            have f0 : V2.frozen? ⟨w.heap.size, 0, none⟩ = false := blk_frz cR
                            have f1 : V2.frozen? ⟨w.heap.size, 1, none⟩ = false := blk_frz cR
                            have HFI : Hid (∀ V', Keep (fun _ => False) V2 V' → ParsedIs t w (.returned (.tuple #[.agg #[.slice none 0 0, .slice none 0 0], .int .i64 6, .int .i64 (x.at_ : Int)])) ((V'.setCell ⟨w.heap.size, 0, none⟩ (.slice none 0 0)).setCell ⟨w.heap.size, 1, none⟩ (.slice none 0 0))) := fun V' k =>
                              zero_fin (HPR.out _ _ _ (by unfold TailRes; rw [HDN.out, HF.out]; exact ⟨rfl, rfl, rfl⟩)) (keep_set' (keep_set' (((HKW4.out.trans HKV.out).trans HKM.out).trans k) (Nat.le_refl _)) (Nat.le_refl _))
                            clear cT cR HF
                            go_upto_region 31 with fail
                            go_region
                            all_goals (
                              go_wp2
                              refine bodyPost_ret (v := .tuple #[.agg #[.slice none 0 0, .slice none 0 0], .int .i64 6, .int .i64 (x.at_ : Int)]) ?_ rfl ?_
                              · simp [results, Tryz.f4, go_sem, *]
                              · exact HFI.out _ (keep_drewN V2 1))
                        · obtain ⟨p, hp⟩ : ∃ p, j = p + 1 := ⟨j - 1, by omega⟩
                          obtain ⟨y, hy⟩ : ∃ y, q.body.tk[p]? = some y := ⟨_, List.getElem?_eq_getElem (by have := HNBB.out; omega)⟩
                          have ey := HPV.out p y hp hy
                          have ltj : j < NB := hjl
                          have hjb : ((j : Int) == 0) = false := by simp; omega
                          have hjm : (j : Int) - 1 = (p : Int) := by omega
                          have hpN : (p : Int) < NB := by omega
                          have HPCE : Hid (pcAt q.body.tk j = (y.kind == 94)) := by
                            show _ = _
                            unfold pcAt
                            rw [if_neg hj0, hp, Nat.add_sub_cancel, kAt_get hy]
                          rw [hk110] at e0 HVT HVV
                          clear hj0 hk110 hp hy
                          by_cases hy94 : y.kind = 94
                          · have HN2 : Hid (orR (refF (namesOf qs) (pcAt q.body.tk (j + 1)) (q.body.tk.drop (j + 1))) (refsF (namesOf qs) (qs.drop (i + 1))) = refsF (namesOf qs) qs) := by
                              have h := HST.out
                              rw [if_neg (fun q => by have := q.2.1; rw [HPCE.out, hy94] at this; exact absurd this (by decide))] at h
                              exact h
                            rw [hy94] at ey
                            clear hy94
                            go_upto_region 30 with fail
                            rw [← HVV.out]
                            go_wp2
                            go_roundw
                            case rel => exact ⟨j + 1, hjl, by go_num, HKV.out, HN2.out⟩
                            case measure => simp [intOf]; omega
                          · have HPC : Hid (pcAt q.body.tk j = false) := by
                              show _ = _
                              rw [HPCE.out]
                              simpa using hy94
                            have hy94' : (y.kind != 94) = true := by simpa using hy94
                            clear hy94
                            go_upto_region 30 with fail
                            rw [← HVV.out]
                            have hne1 : ¬ wr.heap.size = w.heap.size := by have h1 : w.heap.size < W4.heap.size := (Array.getElem?_eq_some_iff.1 HR4.out).1; have h2 := HK2.out.size; omega
                            have hne2 : ¬ w.heap.size = wr.heap.size := fun q => hne1 q.symm
                            have v2 : V.cell? ⟨wr.heap.size, 2, none⟩ = some (.slice xa x.nm.length xc) := blk_cell HVT.out rfl
                            have HFC : Hid (Calls Tryz.prog 15 #[.slice va NN vc, .slice xa x.nm.length xc] V fun e w' => e = .returned (.int .i64 (findF x.nm (namesOf qs) 0)) ∧ ∃ m, w' = V.drewN m) := by
                              have h := l2find_any (fun b => b < W4.heap.size) (New w0 W1) (namesOf qs) x.nm va xa vc xc V (HNM.out.later HBV4.out) (HXI.out.later HBV4.out) HNB.out HXB.out (by have := HNN.out; omega)
                              rw [← HNN.out] at h
                              exact h
                            by_cases hmem : x.nm ∈ namesOf qs
                            · obtain ⟨k, _, hk⟩ := (find_neg x.nm (namesOf qs) 0).1 hmem
                              rw [hk] at HFC
                              have HN2 : Hid (orR (refF (namesOf qs) (pcAt q.body.tk (j + 1)) (q.body.tk.drop (j + 1))) (refsF (namesOf qs) (qs.drop (i + 1))) = refsF (namesOf qs) qs) := by
                                have h := HST.out
                                rw [if_neg (fun q => q.2.2 hmem)] at h
                                exact h
                              have hk0 : decide (((0 + k : Nat) : Int) < 0) = false := decide_eq_false (by omega)
                              have hk1 : ¬ ((0 + k : Nat) : Int) < 0 := by omega
                              clear hmem hk HST
                              generalize hkk : 0 + k = k0 at *
                              clear hkk
                              go_wp2_with fail
                              refine HFC.out.mono ?_
                              rintro e W ⟨rfl, m, rfl⟩
                              have HKM : Hid (Keep (fun _ => False) W4 (V.drewN m)) := HKV.out.trans (keep_drewN V m)
                              go_wp2
                              go_roundw
                              case rel => exact ⟨j + 1, hjl, by go_num, HKM.out, HN2.out⟩
                              case measure => simp [intOf]; omega
                            · rw [(find_neg x.nm (namesOf qs) 0).2 hmem] at HFC
                              have HF : Hid (refsF (namesOf qs) qs = some x.at_) := by
                                have h := HST.out
                                rw [if_pos ⟨HK110.out, HPC.out, hmem⟩] at h
                                exact h.symm
                              clear hmem HST
                              go_wp2_with fail
                              refine HFC.out.mono ?_
                              rintro e W ⟨rfl, m, rfl⟩
                              obtain ⟨V2, hV2⟩ : ∃ V2, V.drewN m = V2 := ⟨_, rfl⟩
                              have HKM : Hid (Keep (fun _ => False) V V2) := by rw [← hV2]; exact keep_drewN V m
                              rw [hV2]
                              clear hV2
                              have cT := HKM.out.block wr.heap.size (Array.getElem?_eq_some_iff.1 HVT.out).1 (fun q => q)
                              rw [HVT.out] at cT
                              have t1 : V2.cell? ⟨wr.heap.size, 1, none⟩ = some (.int .i64 x.at_) := blk_cell cT rfl
                              have cR := (HKV.out.trans HKM.out).block w.heap.size (Array.getElem?_eq_some_iff.1 HR4.out).1 (fun q => q)
                              rw [HR4.out] at cR
                              have c0 : V2.cell? ⟨w.heap.size, 0, none⟩ = some (.slice none 0 0) := blk_cell cR rfl
                              have c1 : V2.cell? ⟨w.heap.size, 1, none⟩ = some (.slice none 0 0) := blk_cell cR rfl
                              have f0 : V2.frozen? ⟨w.heap.size, 0, none⟩ = false := blk_frz cR
                              have f1 : V2.frozen? ⟨w.heap.size, 1, none⟩ = false := blk_frz cR
                              have HFI : Hid (∀ V', Keep (fun _ => False) V2 V' → ParsedIs t w (.returned (.tuple #[.agg #[.slice none 0 0, .slice none 0 0], .int .i64 6, .int .i64 (x.at_ : Int)])) ((V'.setCell ⟨w.heap.size, 0, none⟩ (.slice none 0 0)).setCell ⟨w.heap.size, 1, none⟩ (.slice none 0 0))) := fun V' k =>
                                zero_fin (HPR.out _ _ _ (by unfold TailRes; rw [HDN.out, HF.out]; exact ⟨rfl, rfl, rfl⟩)) (keep_set' (keep_set' (((HKW4.out.trans HKV.out).trans HKM.out).trans k) (Nat.le_refl _)) (Nat.le_refl _))
                              clear cT cR HF
                              go_upto_region 31 with fail
                              go_region
                              all_goals (
                                go_wp2
                                refine bodyPost_ret (v := .tuple #[.agg #[.slice none 0 0, .slice none 0 0], .int .i64 6, .int .i64 (x.at_ : Int)]) ?_ rfl ?_
                                · simp [results, Tryz.f4, go_sem, *]
                                · exact HFI.out _ (keep_drewN V2 1))
                      · have HN2 : Hid (orR (refF (namesOf qs) (pcAt q.body.tk (j + 1)) (q.body.tk.drop (j + 1))) (refsF (namesOf qs) (qs.drop (i + 1))) = refsF (namesOf qs) qs) := by
                          have h := HST.out
                          rw [if_neg (fun q => hk110 q.1)] at h
                          exact h
                        have hk' : (x.kind == 110) = false := by simpa using hk110
                        clear hk110
                        go_upto_region 30 with fail
                        rw [← HVV.out]
                        go_wp2
                        go_roundw
                        case rel => exact ⟨j + 1, hjl, by go_num, HKV.out, HN2.out⟩
                        case measure => simp [intOf]; omega
                    · have hjl' : ¬ (j : Int) < NB := by omega
                      have HF4 : Hid (refsF (namesOf qs) (qs.drop (i + 1)) = refsF (namesOf qs) qs) := by
                        have h := HF3.out
                        rw [List.drop_of_length_le (by have := HNBB.out; omega), refF] at h
                        exact h
                      go_wp2
                      go_roundw
                      case rel => exact ⟨i + 1, hlt, by go_num, HK2.out, HF4.out⟩
                      case measure => simp [intOf]; omega
                  --}
                · have hlt' : ¬ (i : Int) < NQ := by omega
                  have HRN : Hid (refsF (namesOf qs) qs = none) := by
                    have h := HF.out
                    rw [List.drop_of_length_le (by have := HNQ.out; omega), refsF] at h
                    exact h.symm
                  rename World => W5
                  have HKW5 : Hid (Keep (fun _ => False) w W5) := HKW4.out.trans HK.out
                  have HR5 : Hid (W5.heap[w.heap.size]? = some (.cells #[.slice none 0 0, .slice none 0 0] 26)) := (HK.out.block w.heap.size (Array.getElem?_eq_some_iff.1 HR4.out).1 (fun q => q)).trans HR4.out
                  have HRL5 : Hid (RlsA (New w0 W1) W5 ra qs) := HRL4.out.later HK.out.bel
                  have HNM5 : Hid (NmsA (fun _ => True) W5 va (namesOf qs)) := (HNM.out.later HK.out.bel).wide (fun _ _ => trivial)
                  clear HKW4 HR4 HRL4 HNM HK HF
                  by_cases hN0 : NN = 0
                  · have HE : Hid (namesOf qs = []) := List.eq_nil_of_length_eq_zero (by rw [← HNN.out]; exact hN0)
                    have HFI : Hid (ParsedIs t w (.returned (.tuple #[.agg #[.slice none 0 0, .slice none 0 0], .int .i64 6, .int .i64 (t.n : Int)])) ((W5.setCell ⟨w.heap.size, 0, none⟩ (.slice none 0 0)).setCell ⟨w.heap.size, 1, none⟩ (.slice none 0 0))) :=
                      zero_fin (HPR.out _ _ _ (by unfold TailRes; rw [HDN.out, HRN.out, HE.out]; exact ⟨rfl, rfl, rfl⟩)) (keep_set' (keep_set' HKW5.out (Nat.le_refl _)) (Nat.le_refl _))
                    subst hN0
                    have cR := HR5.out
                    have c0 : W5.cell? ⟨w.heap.size, 0, none⟩ = some (.slice none 0 0) := blk_cell cR rfl
                    have c1 : W5.cell? ⟨w.heap.size, 1, none⟩ = some (.slice none 0 0) := blk_cell cR rfl
                    have f0 : W5.frozen? ⟨w.heap.size, 0, none⟩ = false := blk_frz cR
                    have f1 : W5.frozen? ⟨w.heap.size, 1, none⟩ = false := blk_frz cR
                    clear cR
                    go_wp2
                    refine bodyPost_ret (v := .tuple #[.agg #[.slice none 0 0, .slice none 0 0], .int .i64 6, .int .i64 (t.n : Int)]) ?_ rfl ?_
                    · simp [results, Tryz.f4, go_sem, *]
                    · exact HFI.out
                  · have hN0b : ((NN : Int) == 0) = false := by simp; omega
                    have HNE : Hid (¬ namesOf qs = []) := fun q => hN0 (by rw [HNN.out, q]; rfl)
                    have HTKl : Hid ((qs.flatMap Rl.tk).length ≤ 8000) := by have h1 := wtT_len (qs.flatMap Rl.tk); have h2 := HTW2.out; show _ ≤ _; omega
                    have HLB : Hid (∀ z ∈ labsAll qs, BytL z ∧ z.length ≤ 1000000) := fun z hz => by
                      unfold labsAll at hz
                      obtain ⟨q, hq, hz⟩ := List.mem_flatMap.1 hz
                      have hTF := HTF2.out q hq
                      have tok : ∀ x : Tok, TokF t.n x → BytL x.nm ∧ x.nm.length ≤ 1000000 := fun x h => ⟨h.byt, by have := h.len; omega⟩
                      unfold labsOf at hz
                      rcases List.mem_append.1 hz with h | h
                      · split at h
                        · rw [List.mem_singleton.1 h]; exact tok _ hTF.1
                        · cases h
                      · obtain ⟨x, hx, rfl⟩ := afterC_mem h
                        exact tok _ (hTF.2 x hx)
                    clear hN0
                    go_wp2_with fail
                    have hLA := l2labels_any (New w0 W1) qs ra rc W5 HRL5.out (by have := HTKl.out; omega) (fun z hz => (HLB.out z hz).1) (fun z hz => (HLB.out z hz).2)
                    rw [← HNQ.out] at hLA
                    refine hLA.mono ?_
                    clear hLA
                    rintro e W6 ⟨la, lc, ls, rfl, hAs, hmem, hNL, hK6⟩
                    have HAS : Hid (Asc ls) := hAs
                    have HMEM : Hid (∀ z, z ∈ ls ↔ z ∈ labsAll qs) := hmem
                    have HNL6 : Hid (NmsA (fun b => b < W6.heap.size) W6 la ls) := hNL
                    have HKW6 : Hid (Keep (fun _ => False) w W6) := HKW5.out.trans hK6
                    have HR6 : Hid (W6.heap[w.heap.size]? = some (.cells #[.slice none 0 0, .slice none 0 0] 26)) := (hK6.block w.heap.size (Array.getElem?_eq_some_iff.1 HR5.out).1 (fun q => q)).trans HR5.out
                    have HRL6 : Hid (RlsA (New w0 W1) W6 ra qs) := HRL5.out.later hK6.bel
                    have HNM6 : Hid (NmsA (fun _ => True) W6 va (namesOf qs)) := HNM5.out.later hK6.bel
                    have HLBY : Hid (∀ y ∈ ls, BytL y) := fun y hy => (HLB.out y ((hmem y).1 hy)).1
                    have hls8 : ls.length ≤ 8000 := by
                      have h1 := hAs.len (m := labsAll qs) (fun z hz => (hmem z).1 hz)
                      have h2 := labsAll_len qs
                      have h3 := HTKl.out
                      omega
                    obtain ⟨NS, hNS⟩ : ∃ n, n = ls.length := ⟨_, rfl⟩
                    have HNSS : Hid (NS = ls.length) := hNS
                    rw [← hNS] at hls8 ⊢
                    clear hAs hmem hNL hK6 HKW5 HR5 HRL5 HNM5 hNS
                    go_wp2
                    obtain ⟨W7, hW7⟩ : ∃ W7, W7 = W6.alloc (.cells #[.slice none 0 0, .slice none 0 0] 26) := ⟨_, rfl⟩
                    have HK7 : Hid (Keep (fun _ => False) W6 W7) := by rw [hW7]; exact Keep.alloc _ _ _
                    have HS7 : Hid (W7.heap.size = W6.heap.size + 1) := by rw [hW7]; show _ = _; simp
                    obtain ⟨wE, hwE⟩ : ∃ wE : World, wE.heap.size = 0 := ⟨{ w with heap := #[] }, rfl⟩
                    have HG0 : Hid (∃ G, GVo W6.heap.size wE G W7 (.slice none 0 0) (.slice none 0 0) [] []) := by rw [hW7]; exact ⟨_, GVo.start W6 wE hwE⟩
                    rw [← hW7]
                    clear hW7 hwE
                    go_loopw [18] (lab6I NS W6.heap.size wE W7 ls) (fun u _ => NS - (intOf u).toNat)
                    case atStart =>
                      obtain ⟨G, hG⟩ := HG0.out
                      exact ⟨0, G, _, [], Nat.zero_le _, rfl, hG, rfl, Keep.refl _ _⟩
                    case round =>
                      obtain ⟨i, G, lv, cs, hi, rfl, hG, hcs, hK⟩ := hrel
                      have HG : Hid (GVo W6.heap.size wE G wr (.slice none 0 0) lv [] cs) := hG
                      have HCS : Hid (cs.map (·.d) = (ls.take i).map (fun z => (⟨z, false, []⟩ : NL))) := hcs
                      have HKr : Hid (Keep (fun b => b = W6.heap.size) W7 wr) := hK
                      have hcl : cs.length = i := by
                        have h := congrArg List.length hcs
                        have := HNSS.out
                        rw [List.length_map, List.length_map, List.length_take] at h
                        omega
                      obtain ⟨lva, lvc, rfl⟩ := own_shape hG.v.gr.labs
                      have HCL : Hid (cs.length = i) := hcl
                      have z1 := hG.v.c1
                      have f1 := hG.v.f1
                      have z1l : W6.heap.size < wr.heap.size := lt_of_cell z1
                      clear hG hcs hK hcl HG0
                      by_cases hlt : i < NS
                      ·
                        --{
                        have hlt' : (i : Int) < NS := by omega
                        obtain ⟨z, hz⟩ : ∃ z, ls[i]? = some z := ⟨_, List.getElem?_eq_getElem (by have := HNSS.out; omega)⟩
                        obtain ⟨lb, lo, rfl, hcell⟩ := HNL6.out.at (i := i) (by have := HNSS.out; omega)
                        obtain ⟨za, zc, c0, hI⟩ := hcell i z hz
                        have hlb : lb < W6.heap.size := lt_of_cell c0
                        have c0' : wr.cell? ⟨lb, lo + i, none⟩ = some (.slice za z.length zc) := by
                          rw [HKr.out.cell (p := ⟨lb, lo + i, none⟩) (by have := HS7.out; show lb < _; omega) (by show ¬ lb = _; omega)]
                          exact (HK7.out.cell (p := ⟨lb, lo + i, none⟩) hlb (fun q => q)).trans c0
                        have lbl : lb < wr.heap.size := lt_of_cell c0'
                        have hlbn : ¬ lb = W6.heap.size := by omega
                        have HI : Hid (Ints (Tg G wr 2) .u8 wr za z.length (lf z)) := by
                          have h1 := hI.later HK7.out.bel
                          have h2 : Stay (fun b => b < W6.heap.size) W7 wr := fun b hb => HKr.out.block b (by have := HS7.out; omega) (by omega)
                          exact (h1.on h2).wide (fun b hb => ⟨by have := HKr.out.size; have := HS7.out; omega, HG.out.old b hb⟩)
                        have HNX : Hid (∀ y : GC, y.d = ⟨z, false, []⟩ → (cs ++ [y]).map (·.d) = (ls.take (i + 1)).map (fun z => (⟨z, false, []⟩ : NL))) := fun y hy => by
                          rw [List.map_append, HCS.out, List.take_add_one, hz, List.map_append]
                          simp [hy]
                        clear hcell c0 hI hz HCS
                        have HGL : Hid (GVo W6.heap.size wE (tagN G wr 3) (wr.drew.alloc (.cells #[.slice za z.length zc, .bool false, .slice none 0 0] 50)) (.slice none 0 0) (.slice lva cs.length lvc) [] cs) := HG.out.later ((Keep.drew _ _).trans (Keep.alloc _ _ _)) 3
                        have HIL : Hid (Ints (Tg (tagN G wr 3) (wr.drew.alloc (.cells #[.slice za z.length zc, .bool false, .slice none 0 0] 50)) 2) .u8 (wr.drew.alloc (.cells #[.slice za z.length zc, .bool false, .slice none 0 0] 50)) za z.length (lf z)) :=
                          (HI.out.later (bel_tr (Keep.drew (fun _ => False) wr).bel (bel1 wr.drew _))).wide (tg_wide (by simp) (fun b hb => tagN_old hb) 2)
                        have HFN : Hid (∀ W6' v6, OwnC (fun b => Tg (tagN G wr 3) (wr.drew.alloc (.cells #[.slice za z.length zc, .bool false, .slice none 0 0] 50)) 1 b ∨ (wr.drew.alloc (.cells #[.slice za z.length zc, .bool false, .slice none 0 0] 50)).heap.size ≤ b) W6' v6 3 (cs.length + 1) (cs.flatMap ncL ++ ncL ⟨⟨z, false, []⟩, za, zc, none, 0⟩) → Grew (Tg (tagN G wr 3) (wr.drew.alloc (.cells #[.slice za z.length zc, .bool false, .slice none 0 0] 50)) 1) (wr.drew.alloc (.cells #[.slice za z.length zc, .bool false, .slice none 0 0] 50)) W6' →
                            lab6I NS W6.heap.size wE W7 ls (.int .i64 ((i : Int) + 1)) (W6'.setCell ⟨W6.heap.size, 1, none⟩ v6) ∧ W6'.cell? ⟨W6.heap.size, 1, none⟩ = some (.slice lva cs.length lvc) ∧ W6'.frozen? ⟨W6.heap.size, 1, none⟩ = false) := fun W6' v6 hown hgrew => by
                          obtain ⟨G', hG'⟩ := HGL.out.putL (x := ⟨⟨z, false, []⟩, za, zc, none, 0⟩) HIL.out (bod_nil _ _) hown hgrew
                          obtain ⟨_, y1, _, y2⟩ := dg_cells HGL.out.v (by omega) hgrew
                          exact ⟨⟨i + 1, G', _, _, hlt, by simp, hG', HNX.out _ rfl, HGL.out.keep (by omega) (by omega) HS7.out HKr.out ((Keep.drew _ _).trans (Keep.alloc _ _ _)) hgrew⟩, y1, y2⟩
                        go_upto_region 39 with fail
                        go_region_law
                          (refine stepE rfl (.tmp 175) (.tmp 181) 24 24 rfl (v := .slice lva cs.length lvc) (y := .slice (some ⟨wr.drew.heap.size, 0, none⟩) 1 1) (by simp [Act.eval, Act.put]) (by simp [Act.eval, Act.put]) elem24 (Q := Tg (tagN G wr 3) (wr.drew.alloc (.cells #[.slice za z.length zc, .bool false, .slice none 0 0] 50)) 1) (n := cs.length) (cs := cs.flatMap ncL) (m := 1) (news := ncL ⟨⟨z, false, []⟩, za, zc, none, 0⟩) HGL.out.v.gr.labs (src_label (x := ⟨⟨z, false, []⟩, za, zc, none, 0⟩) (World.alloc_heap_new wr.drew _)) (by have := HCL.out; omega) ?_
                           intro v6 W8 hown hgrew hsz
                           obtain ⟨a6, c6, rfl⟩ := own_shape hown
                           obtain ⟨hE, y1, y2⟩ := HFN.out _ _ hown hgrew
                           have HE : Hid (lab6I NS W6.heap.size wE W7 ls (.int .i64 ((i : Int) + 1)) (W8.setCell ⟨W6.heap.size, 1, none⟩ (.slice a6 (cs.length + 1) c6))) := hE
                           clear hown hgrew hsz hE)
                        all_goals go_goals
                        all_goals (
                          go_wp2
                          go_roundw
                          all_goals first
                            | exact HE.out
                            | (simp [intOf]; omega)
                            | omega)
                        --}
                      · have hlt' : ¬ (i : Int) < NS := by omega
                        have HS0 : Hid (rul7I NQ W6.heap.size wE W7 (namesOf qs) ls qs (.int .i64 0) wr) := by
                          have h := HCS.out
                          rw [List.take_of_length_le (by have := HNSS.out; omega)] at h
                          exact ⟨0, G, _, _, [], cs, Nat.zero_le _, rfl, HG.out, rfl, h, HKr.out⟩
                        clear HCS HG HKr z1 f1 z1l HCL
                        go_wp2
                        go_loopw [19] (rul7I NQ W6.heap.size wE W7 (namesOf qs) ls qs) (fun u _ => NQ - (intOf u).toNat)
                        case atStart => exact HS0.out
                        case round =>
                          obtain ⟨i, G, rv, lv, rs, cs, hi, rfl, hG, hrs, hcs, hK⟩ := hrel
                          have HG : Hid (GVo W6.heap.size wE G wr rv lv rs cs) := hG
                          have HRS : Hid (rs.map (·.d) = rulesNL (namesOf qs) ls (qs.take i)) := hrs
                          have HCS : Hid (cs.map (·.d) = labsNL (namesOf qs) ls (qs.take i)) := hcs
                          have HKr : Hid (Keep (fun b => b = W6.heap.size) W7 wr) := hK
                          have hcl : cs.length = NS := by
                            have h := congrArg List.length hcs
                            unfold labsNL at h
                            rw [List.length_map, List.length_map] at h
                            rw [HNSS.out]
                            exact h
                          have hrl : rs.length ≤ i := by
                            have h := congrArg List.length hrs
                            unfold rulesNL at h
                            rw [List.length_map, List.length_map] at h
                            have h2 := List.length_filter_le (fun q : Rl => !q.car.isSome) (qs.take i)
                            rw [List.length_take] at h2
                            omega
                          have HB6 : Hid (Below W6.heap.size W6 wr) := HK7.out.bel.trans (hK.below (by have := HS7.out; omega) (fun k hk e => by have e : k = W6.heap.size := e; omega))
                          obtain ⟨lva, lvc, rfl⟩ := own_shape hG.v.gr.labs
                          obtain ⟨rva, rvc, rfl⟩ := own_shape hG.v.gr.rules
                          have HCL : Hid (cs.length = NS) := hcl
                          clear hG hrs hcs hK HS0 hcl
                          by_cases hlt : i < NQ
                          · have hlt' : (i : Int) < NQ := by omega
                            obtain ⟨q, hq⟩ : ∃ q, qs[i]? = some q := ⟨_, List.getElem?_eq_getElem (by have := HNQ.out; omega)⟩
                            have HQ : Hid (qs[i]? = some q) := hq
                            obtain ⟨b, off, rfl, hcell⟩ := HRL6.out.at (i := i) (by have := HNQ.out; omega)
                            obtain ⟨h1, h2, ba, bc, h3, h4, h5⟩ := hcell i q hq
                            obtain ⟨qa, qc, q2, q2'⟩ := h2.nm
                            have k0 := cell_on h1 HB6.out
                            have k1 := cell_on q2 HB6.out
                            have k5 := cell_on h3 HB6.out
                            have HQI : Hid (Ints (New w0 W1) .u8 wr qa q.name.nm.length (lf q.name.nm)) := q2'.later HB6.out
                            have HQF : Hid (TokF t.n q.name) := (HTF2.out q (List.mem_of_getElem? hq)).1
                            have HBD : Hid (Calls Tryz.prog 17 #[.slice ba q.body.tk.length bc, .slice va NN vc, .slice la NS lc] wr (Mk (q.body.ops (namesOf qs) ls) wr)) := by
                              have hTF := (HTF2.out q (List.mem_of_getElem? hq)).2
                              have hqm := List.mem_of_getElem? hq
                              have hwt : wtT q.body.tk ≤ 8000 := by
                                obtain ⟨l1, l2, hl⟩ := List.append_of_mem hqm
                                have h := HTW2.out
                                rw [hl, List.flatMap_append, List.flatMap_cons, wtT_app, wtT_app] at h
                                have e : wtT q.tk = wtT q.car.toList + (q.name.nm.length + 1 + (q.eq.nm.length + 1 + (wtT q.body.tk + wtT [q.semi]))) := by
                                  unfold Rl.tk
                                  rw [wtT_app, wtT, wtT, wtT_app]
                                omega
                              have hop := (ops_le (namesOf qs) ls q.body).2 (HOK.out q hqm).2.2.2.1
                              have hN : Nms (fun _ => True) wr va la (namesOf qs) ls := ⟨HNM6.out.later HB6.out, (HNL6.out.later HB6.out).wide (fun _ _ => trivial), HNB.out, HLBY.out, by have := HNN.out; omega, by have := HNSS.out; omega⟩
                              have hlen := wtT_len q.body.tk
                              have hb := (build_any (fun _ => True) va la vc lc (namesOf qs) ls wr hN q.body (fun x hx => (hTF x hx).ok (by omega)) (by omega) ⟨by omega, ops_sl _ _ _ 1048576 (by omega) (fun x hx => ((hTF x hx).ok (by omega)).2.2)⟩).2.1 (HOK.out q hqm).2.2.2.1 ba bc wr (Keep.refl _ _) ((h4.later HB6.out).wide (fun _ _ => trivial)) h5
                              rw [← HNN.out, ← HNSS.out] at hb
                              exact hb
                            have hnml : q.name.nm.length ≤ 1000000 := by have := HQF.out.len; omega
                            clear hcell h1 h2 h3 h4 h5 q2 q2' hq
                            obtain ⟨D, hD⟩ : ∃ D, D = q.body.ops (namesOf qs) ls := ⟨_, rfl⟩
                            have HDD : Hid (q.body.ops (namesOf qs) ls = D) := hD.symm
                            rw [← hD] at HBD
                            clear hD
                            go_wp2_with fail
                            refine HBD.out.mono ?_
                            clear HBD
                            rintro e W8 ⟨ba2, bc2, rfl, hbod, hk8⟩
                            have HBOD : Hid (BodP (New wr W8) W8 (.slice ba2 D.length bc2) D) := hbod
                            have HK8 : Hid (Keep (fun _ => False) wr W8) := hk8
                            have j0 := cell_on k0 hk8.bel
                            have j1 := cell_on k1 hk8.bel
                            clear k0 k1 k5 hbod hk8
                            cases hcar : q.car with
                            | some cc =>
                              have HC : Hid (q.car.isSome = true) := by rw [hcar]; rfl
                              rw [hcar] at j0
                              simp only [Option.isSome_some] at j0
                              --{
                              have HMN : Hid (q.name.nm ∈ ls) := (HMEM.out _).2 (by
                                unfold labsAll
                                refine List.mem_flatMap.2 ⟨q, List.mem_of_getElem? HQ.out, ?_⟩
                                unfold labsOf
                                rw [HC.out]
                                simp)
                              obtain ⟨k, hk1, hk2⟩ := (find_neg q.name.nm ls 0).1 HMN.out
                              have HFC : Hid (Calls Tryz.prog 15 #[.slice la NS lc, .slice qa q.name.nm.length qc] W8 fun e w' => e = .returned (.int .i64 (k : Nat)) ∧ ∃ m, w' = W8.drewN m) := by
                                have h := l2find_any (fun b => b < W6.heap.size) (New w0 W1) ls q.name.nm la qa lc qc W8 ((HNL6.out.later HB6.out).later HK8.out.bel) (HQI.out.later HK8.out.bel) HLBY.out HQF.out.byt (by have := HNSS.out; omega)
                                rw [hk2, Nat.zero_add, ← HNSS.out] at h
                                exact h
                              have hkNS : k < NS := by have := (List.getElem?_eq_some_iff.1 hk1).1; have := HNSS.out; omega
                              have hkN' : (k : Int) < NS := by omega
                              obtain ⟨x, hx⟩ : ∃ x, cs[k]? = some x := ⟨_, List.getElem?_eq_getElem (by have := HCL.out; omega)⟩
                              have HXD : Hid (x.d.nm = q.name.nm) := by
                                have h : (cs.map (·.d))[k]? = some x.d := by rw [List.getElem?_map, hx]; rfl
                                rw [HCS.out] at h
                                unfold labsNL at h
                                rw [List.getElem?_map, hk1] at h
                                injection h with h
                                rw [← h]
                                exact labNL_nm _ _ _ _
                              have HREC : Hid (∀ m, ∃ g c, (.slice lva cs.length lvc : Value) = .slice (some ⟨g, 0, none⟩) cs.length c ∧ W6.heap.size ≠ g ∧ (W8.drewN m).cell? ⟨g, k * 3 + 1, none⟩ = some (.bool x.d.has) ∧ (W8.drewN m).frozen? ⟨g, k * 3 + 1, none⟩ = false ∧ (W8.drewN m).cell? ⟨g, k * 3 + 2, none⟩ = some (.slice x.ba x.d.bd.length x.bc) ∧ (W8.drewN m).frozen? ⟨g, k * 3 + 2, none⟩ = false ∧
                                  rul7I NQ W6.heap.size wE W7 (namesOf qs) ls qs (.int .i64 ((i : Int) + 1)) (((W8.drewN m).setCell ⟨g, k * 3 + 1, none⟩ (.bool true)).setCell ⟨g, k * 3 + 2, none⟩ (.slice ba2 D.length bc2))) := fun m => by
                                obtain ⟨g, c, e1, e2, e3, e4, e5, e6, ⟨G', hG'⟩, e8⟩ := HG.out.recover (HK8.out.trans (keep_drewN W8 m)) (D := D) (ba := ba2) (bc := bc2) ((HBOD.out.on (fun b hb => (keep_drewN W8 m).block b hb.2 (fun q => q))).wide (fun b hb => ⟨hb.1, by have := hb.2; simpa using this⟩)) hx
                                refine ⟨g, c, e1, e2, e3, e4, e5, e6, i + 1, G', _, _, rs, _, hlt, by simp, hG', ?_, ?_, e8 W7 HS7.out HKr.out⟩
                                · rw [List.take_add_one, HQ.out]
                                  show _ = rulesNL _ _ (_ ++ [q])
                                  rw [rulesNL_snoc, HRS.out, HC.out]
                                  simp
                                · rw [List.take_add_one, HQ.out]
                                  show _ = labsNL _ _ (_ ++ [q])
                                  rw [labsNL_set HAS.out hk1 HC.out (fun s hs => (dup_none HDN.out i q HQ.out) s (by simpa using hs)), List.map_set, HCS.out, HXD.out, HDD.out]
                              have z1 : W8.cell? ⟨W6.heap.size, 1, none⟩ = some (.slice lva cs.length lvc) := (HG.out.later HK8.out 3).v.c1
                              have hcsl : (k : Int) < (cs.length : Int) := by have := HCL.out; omega
                              clear hk1 hk2 hx
                              go_wp2_with fail
                              refine HFC.out.mono ?_
                              rintro e W ⟨rfl, m, rfl⟩
                              obtain ⟨g, c9, e1, e2, e3, e4, e5, e6, e7⟩ := HREC.out m
                              have HE : Hid (rul7I NQ W6.heap.size wE W7 (namesOf qs) ls qs (.int .i64 ((i : Int) + 1)) (((W8.drewN m).setCell ⟨g, k * 3 + 1, none⟩ (.bool true)).setCell ⟨g, k * 3 + 2, none⟩ (.slice ba2 D.length bc2))) := e7
                              obtain rfl : lva = some ⟨g, 0, none⟩ := by injection e1
                              have e2' : ¬ g = W6.heap.size := fun q => e2 q.symm
                              clear e7 e1 HREC HFC
                              have z2 : (W8.drewN m).cell? ⟨W6.heap.size, 1, none⟩ = some (.slice (some ⟨g, 0, none⟩) cs.length lvc) := by simpa using z1
                              generalize hV8 : W8.drewN m = V8 at *
                              clear hV8 z1
                              go_wp2
                              go_roundw
                              all_goals first
                                | exact HE.out
                                | (simp [intOf]; omega)
                              --}
                            | none =>
                              rw [hcar] at j0
                              simp only [Option.isSome_none] at j0
                              --{
                              have z0 : W8.cell? ⟨W6.heap.size, 0, none⟩ = some (.slice rva rs.length rvc) := (HG.out.later HK8.out 3).v.c0
                              have z0l : W6.heap.size < W8.heap.size := lt_of_cell z0
                              have j1l : b < W8.heap.size := lt_of_cell j1
                              have HI8 : Hid (Ints (New w0 W1) .u8 W8.drew qa q.name.nm.length (lf q.name.nm)) := (HQI.out.later HK8.out.bel).later (Keep.drew (fun _ => False) W8).bel
                              have HZ3 : Hid (∀ W3, Keep (fun _ => False) W8.drew W3 → W3.cell? ⟨W6.heap.size, 0, none⟩ = some (.slice rva rs.length rvc)) := fun W3 k => (HG.out.later ((HK8.out.trans (Keep.drew _ _)).trans k) 3).v.c0
                              have HMM : Hid (∀ a3 c3 W3, Ints (New W8.drew W3) .u8 W3 a3 q.name.nm.length (lf q.name.nm) → Keep (fun _ => False) W8.drew W3 → ∃ G', GVo W6.heap.size wE G' (W3.alloc (.cells #[.slice a3 q.name.nm.length c3, .slice ba2 D.length bc2] 53)) (.slice rva rs.length rvc) (.slice lva cs.length lvc) rs cs ∧ Ints (Tg G' (W3.alloc (.cells #[.slice a3 q.name.nm.length c3, .slice ba2 D.length bc2] 53)) 2) .u8 (W3.alloc (.cells #[.slice a3 q.name.nm.length c3, .slice ba2 D.length bc2] 53)) a3 q.name.nm.length (lf q.name.nm) ∧ BodP (Tg G' (W3.alloc (.cells #[.slice a3 q.name.nm.length c3, .slice ba2 D.length bc2] 53)) (4 + 2 * rs.length)) (W3.alloc (.cells #[.slice a3 q.name.nm.length c3, .slice ba2 D.length bc2] 53)) (.slice ba2 D.length bc2) D) := fun a3 c3 W3 hi hk => by
                                have kk : Keep (fun _ => False) wr (W3.alloc (.cells #[.slice a3 q.name.nm.length c3, .slice ba2 D.length bc2] 53)) := ((HK8.out.trans (Keep.drew _ _)).trans hk).trans (Keep.alloc _ _ _)
                                have z8 := HK8.out.size
                                have z3 : W8.heap.size ≤ W3.heap.size := hk.size
                                refine HG.out.mid (N := New W8.drew W3) (B := New wr W8) (4 + 2 * rs.length) kk (hi.later (bel1 W3 _)) (HBOD.out.on (fun b hb => ((Keep.drew (fun _ => False) W8).trans (hk.trans (Keep.alloc _ _ _))).block b hb.2 (fun q => q))) (fun b hb => ⟨?_, ?_⟩) (fun b hb => ⟨hb.1, ?_⟩) (fun b hb hb' => ?_)
                                · have h1 : W8.heap.size ≤ b := hb.1
                                  omega
                                · have h1 := hb.2
                                  simp
                                  omega
                                · have h1 := hb.2
                                  simp
                                  omega
                                · have h1 : W8.heap.size ≤ b := hb.1
                                  have h2 := hb'.2
                                  omega
                              have HFN : Hid (∀ a3 c3 W3 G2 v6 W9, Keep (fun _ => False) W8.drew W3 → GVo W6.heap.size wE G2 (W3.alloc (.cells #[.slice a3 q.name.nm.length c3, .slice ba2 D.length bc2] 53)) (.slice rva rs.length rvc) (.slice lva cs.length lvc) rs cs → Ints (Tg G2 (W3.alloc (.cells #[.slice a3 q.name.nm.length c3, .slice ba2 D.length bc2] 53)) 2) .u8 (W3.alloc (.cells #[.slice a3 q.name.nm.length c3, .slice ba2 D.length bc2] 53)) a3 q.name.nm.length (lf q.name.nm) → BodP (Tg G2 (W3.alloc (.cells #[.slice a3 q.name.nm.length c3, .slice ba2 D.length bc2] 53)) (4 + 2 * rs.length)) (W3.alloc (.cells #[.slice a3 q.name.nm.length c3, .slice ba2 D.length bc2] 53)) (.slice ba2 D.length bc2) D →
                                  OwnC (fun b => Tg G2 (W3.alloc (.cells #[.slice a3 q.name.nm.length c3, .slice ba2 D.length bc2] 53)) 0 b ∨ (W3.alloc (.cells #[.slice a3 q.name.nm.length c3, .slice ba2 D.length bc2] 53)).heap.size ≤ b) W9 v6 2 (rs.length + 1) (rs.flatMap ncR ++ ncR ⟨⟨q.name.nm, true, D⟩, a3, c3, ba2, bc2⟩) → Grew (Tg G2 (W3.alloc (.cells #[.slice a3 q.name.nm.length c3, .slice ba2 D.length bc2] 53)) 0) (W3.alloc (.cells #[.slice a3 q.name.nm.length c3, .slice ba2 D.length bc2] 53)) W9 →
                                  rul7I NQ W6.heap.size wE W7 (namesOf qs) ls qs (.int .i64 ((i : Int) + 1)) (W9.setCell ⟨W6.heap.size, 0, none⟩ v6) ∧ W9.cell? ⟨W6.heap.size, 0, none⟩ = some (.slice rva rs.length rvc) ∧ W9.frozen? ⟨W6.heap.size, 0, none⟩ = false) := fun a3 c3 W3 G2 v6 W9 hk hg hn hb hown hgrew => by
                                obtain ⟨G', hG'⟩ := hg.putR (x := ⟨⟨q.name.nm, true, D⟩, a3, c3, ba2, bc2⟩) hn hb hown hgrew
                                obtain ⟨y0, _, y2, _⟩ := dg_cells hg.v (by omega) hgrew
                                refine ⟨⟨i + 1, G', _, _, _, cs, hlt, by simp, hG', ?_, ?_, hg.keep (by omega) (by omega) HS7.out HKr.out (((HK8.out.trans (Keep.drew _ _)).trans hk).trans (Keep.alloc _ _ _)) hgrew⟩, y0, y2⟩
                                · rw [List.take_add_one, HQ.out]
                                  show _ = rulesNL _ _ (_ ++ [q])
                                  rw [rulesNL_snoc, List.map_append, HRS.out, hcar]
                                  simp [ruleNL, HDD.out]
                                · rw [List.take_add_one, HQ.out]
                                  show _ = labsNL _ _ (_ ++ [q])
                                  rw [labsNL_rule hcar, HCS.out]
                              have hrs8 : rs.length ≤ 8000 := by omega
                              go_upto_region 48 with fail
                              go_region_law (first
                                | (refine clnS rfl (.tmp 224) (.tmp 230) rfl (W := W8.drew) (ya := qa) (yc := qc) (z := q.name.nm) rfl (by simp [Act.eval, Act.put]) (by simp [Act.eval, Act.put]) HI8.out (by omega) ?_
                                   intro a3 c3 W3 HI3 HK3
                                   have z3 := HZ3.out W3 HK3.out
                                   have z3l : W6.heap.size < W3.heap.size := lt_of_cell z3)
                                | (obtain ⟨G2, hg2, hn2, hb2⟩ := HMM.out a3 c3 W3 HI3.out HK3.out
                                   refine stepE rfl (.tmp 223) (.tmp 234) 23 23 rfl (v := .slice rva rs.length rvc) (y := .slice (some ⟨W3.heap.size, 0, none⟩) 1 1) (by simp [Act.eval, Act.put]) (by simp [Act.eval, Act.put]) elem23 (Q := Tg G2 (W3.alloc (.cells #[.slice a3 q.name.nm.length c3, .slice ba2 D.length bc2] 53)) 0) (n := rs.length) (cs := rs.flatMap ncR) (m := 1) (news := ncR ⟨⟨q.name.nm, true, D⟩, a3, c3, ba2, bc2⟩) hg2.v.gr.rules (src_rule (x := ⟨⟨q.name.nm, true, D⟩, a3, c3, ba2, bc2⟩) (World.alloc_heap_new W3 _)) (by omega) ?_
                                   intro v6 W9 hown hgrew hsz
                                   obtain ⟨a6, c6, rfl⟩ := own_shape hown
                                   obtain ⟨hE, y1, y2⟩ := HFN.out a3 c3 W3 G2 _ W9 HK3.out hg2 hn2 hb2 hown hgrew
                                   have HE : Hid (rul7I NQ W6.heap.size wE W7 (namesOf qs) ls qs (.int .i64 ((i : Int) + 1)) (W9.setCell ⟨W6.heap.size, 0, none⟩ (.slice a6 (rs.length + 1) c6))) := hE
                                   clear hown hgrew hsz hE hg2 hn2 hb2))
                              all_goals go_goals
                              all_goals (
                                go_wp2
                                go_roundw
                                all_goals first
                                  | exact HE.out
                                  | (simp [intOf]; omega)
                                  | omega)
                              --}
                          · have hlt' : ¬ (i : Int) < NQ := by omega
                            have HGR : Hid (gram (rs.map (·.d)) (cs.map (·.d)) = gramOf ls qs) := by
                              have h1 := HRS.out
                              have h2 := HCS.out
                              rw [List.take_of_length_le (by have := HNQ.out; omega)] at h1 h2
                              show _ = _
                              rw [h1, h2]
                              rfl
                            obtain ⟨ra9, rc9, la9, lc9, er, el, hGX⟩ := HG.out.v.gr.gram
                            have HGA : Hid (GramA (Of wr) wr rva lva (gramOf ls qs)) := by
                              have h := hGX.plain
                              rw [HGR.out] at h
                              obtain rfl : rva = ra9 := by injection er
                              obtain rfl : lva = la9 := by injection el
                              exact ⟨h.rules.wide (fun b hb => hb.2), h.labs.wide (fun b hb => hb.2)⟩
                            have HNR : Hid ((gramOf ls qs).nr = rs.length ∧ (gramOf ls qs).nb = cs.length) := by
                              rw [← HGR.out]
                              exact ⟨by show (rs.map (·.d)).length = _; rw [List.length_map], by show (cs.map (·.d)).length = _; rw [List.length_map]⟩
                            clear hGX er el
                            have z0 : wr.cell? ⟨W6.heap.size, 0, none⟩ = some (.slice rva rs.length rvc) := HG.out.v.c0
                            have z1 : wr.cell? ⟨W6.heap.size, 1, none⟩ = some (.slice lva cs.length lvc) := HG.out.v.c1
                            have hwR : w.heap.size < W6.heap.size := (Array.getElem?_eq_some_iff.1 HR6.out).1
                            have HRw : Hid (wr.heap[w.heap.size]? = some (.cells #[.slice none 0 0, .slice none 0 0] 26)) := (HKr.out.block w.heap.size (by have := HS7.out; omega) (by show ¬ w.heap.size = _; omega)).trans ((HK7.out.block w.heap.size hwR (fun q => q)).trans HR6.out)
                            have HKwr : Hid (Keep (fun _ => False) w wr) := by
                              have k1 := HKW6.out.trans HK7.out
                              have hle : w.heap.size ≤ W6.heap.size := HKW6.out.size
                              exact ⟨HKr.out.os.trans k1.os, HKr.out.tape.trans k1.tape, HKr.out.output.trans k1.output, Nat.le_trans k1.size HKr.out.size, fun b hb hn => (HKr.out.block b (by have := k1.size; omega) (by show ¬ b = _; omega)).trans (k1.block b hb hn)⟩
                            have HSG : Hid (SmallG (gramOf ls qs)) := gramOf_small HOK.out HTW2.out HTF2.out hn4 (by have := HNQ.out; omega) (by have := HNSS.out; omega) (fun z hz => HLB.out z ((HMEM.out z).1 hz))
                            have HVC := svalid_any (Of wr) rva lva rvc lvc (gramOf ls qs) wr HGA.out HSG.out
                            rw [HNR.out.1, HNR.out.2] at HVC
                            have HVC : Hid (Calls Tryz.prog 18 #[.agg #[.slice rva rs.length rvc, .slice lva cs.length lvc]] wr (SaysB (M.Valid (gramOf ls qs)) wr)) := HVC
                            have HTR : Hid (∀ code at_ g, ((M.Valid (gramOf ls qs) ∧ code = 0 ∧ at_ = 0 ∧ g = gramOf ls qs) ∨ (¬ M.Valid (gramOf ls qs) ∧ code = 7 ∧ at_ = 0 ∧ g = zeroG)) → PRs t code at_ g) := fun code at_ g h => HPR.out _ _ _ (by
                              unfold TailRes
                              rw [HDN.out, HRN.out]
                              simp only [HNE.out, if_false]
                              exact ⟨ls, HAS.out, HMEM.out, h⟩)
                            clear HRS HCS HMEM
                            go_wp2_with fail
                            refine HVC.out.mono ?_
                            clear HVC
                            rintro e W9 ⟨⟨r, rfl, hr⟩, hB9⟩
                            have HB9 : Hid (Below wr.heap.size wr W9) := hB9
                            have cR := hB9.block w.heap.size (Array.getElem?_eq_some_iff.1 HRw.out).1
                            rw [HRw.out] at cR
                            have c0 : W9.cell? ⟨w.heap.size, 0, none⟩ = some (.slice none 0 0) := blk_cell cR rfl
                            have c1 : W9.cell? ⟨w.heap.size, 1, none⟩ = some (.slice none 0 0) := blk_cell cR rfl
                            have f0 : W9.frozen? ⟨w.heap.size, 0, none⟩ = false := blk_frz cR
                            have f1 : W9.frozen? ⟨w.heap.size, 1, none⟩ = false := blk_frz cR
                            have HR9 : Hid (W9.heap[w.heap.size]? = some (.cells #[.slice none 0 0, .slice none 0 0] 26)) := cR
                            have y0 := cell_on z0 hB9
                            have y1 := cell_on z1 hB9
                            have HK9 : Hid (Keep (fun _ => False) wr W9) := Keep.of_below hB9 (fun k hk _ => hk)
                            clear hB9 z0 z1 cR
                            cases r with
                            | false =>
                              have HNV : Hid (¬ M.Valid (gramOf ls qs)) := fun q => absurd (hr.2 q) (by decide)
                              have HFI : Hid (ParsedIs t w (.returned (.tuple #[.agg #[.slice none 0 0, .slice none 0 0], .int .i64 7, .int .i64 0])) ((W9.setCell ⟨w.heap.size, 0, none⟩ (.slice none 0 0)).setCell ⟨w.heap.size, 1, none⟩ (.slice none 0 0))) :=
                                zero_fin (HTR.out _ _ _ (.inr ⟨HNV.out, rfl, rfl, rfl⟩)) (keep_set' (keep_set' (HKwr.out.trans HK9.out) (Nat.le_refl _)) (Nat.le_refl _))
                              clear hr
                              go_wp2
                              refine bodyPost_ret (v := .tuple #[.agg #[.slice none 0 0, .slice none 0 0], .int .i64 7, .int .i64 0]) ?_ rfl ?_
                              · simp [results, Tryz.f4, go_sem, *]
                              · exact HFI.out
                            | true =>
                              have HV : Hid (M.Valid (gramOf ls qs)) := hr.1 rfl
                              have HFI : Hid (ParsedIs t w (.returned (.tuple #[.agg #[.slice rva rs.length rvc, .slice lva cs.length lvc], .int .i64 0, .int .i64 0])) ((W9.setCell ⟨w.heap.size, 0, none⟩ (.slice rva rs.length rvc)).setCell ⟨w.heap.size, 1, none⟩ (.slice lva cs.length lvc))) := by
                                refine ⟨0, 0, gramOf ls qs, rva, rvc, lva, lvc, HTR.out _ _ _ (.inl ⟨HV.out, rfl, rfl, rfl⟩), by rw [HNR.out.1, HNR.out.2], ?_, keep_set' (keep_set' (HKwr.out.trans HK9.out) (Nat.le_refl _)) (Nat.le_refl _)⟩
                                obtain ⟨ra8, rc8, la8, lc8, er, el, hX⟩ := HG.out.answer (u := .slice rva rs.length rvc) (v := .slice lva cs.length lvc) HK9.out HR9.out hwR
                                rw [HGR.out] at hX
                                obtain rfl : rva = ra8 := by injection er
                                obtain rfl : lva = la8 := by injection el
                                exact hX
                              clear hr
                              go_wp2
                              refine bodyPost_ret (v := .tuple #[.agg #[.slice rva rs.length rvc, .slice lva cs.length lvc], .int .i64 0, .int .i64 0]) ?_ rfl ?_
                              · simp [results, Tryz.f4, go_sem, *]
                              · exact HFI.out
end
end Go.Proofs.YteoddjobpmmgeaaGreat
