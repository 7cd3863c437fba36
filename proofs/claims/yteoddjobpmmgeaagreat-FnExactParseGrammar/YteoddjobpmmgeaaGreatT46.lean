import Derived.Test.YteoddjobpmmgeaaGreatT42
import Derived.Test.YteoddjobpmmgeaaGreatT45
import Derived.Test.YteoddjobpmmgeaaGreatT41
set_option linter.unusedVariables false
set_option linter.unusedSimpArgs false
namespace Go.Proofs.YteoddjobpmmgeaaGreat
section
open Go.RowKit
open M (OpD NodeD Gr)
theorem tx_tok {t : Tx} {qs : List Rl} (h : toksT t = qs.flatMap Rl.tk) : ∀ q ∈ qs, TokF t.n q.name ∧ ∀ x ∈ q.body.tk, TokF t.n x := fun q hq => by
  have key : ∀ x ∈ q.tk, TokF t.n x := fun x hx => (toksT_ok t).1 x (by rw [h]; exact List.mem_flatMap.2 ⟨q, hq, hx⟩)
  exact ⟨key _ (by simp [Rl.tk]), fun x hx => key x (by simp [Rl.tk, hx])⟩
theorem tx_wt {t : Tx} {qs : List Rl} (h : toksT t = qs.flatMap Rl.tk) (hn : t.n ≤ 4000) : wtT (qs.flatMap Rl.tk) ≤ 8000 := by
  rw [← h]
  exact Nat.le_trans (toksT_ok t).2 (by omega)
theorem thr_len : ∀ (e : PE), e.thrT.length ≤ e.tk.length := by
  intro e
  induction e with
  | thr c t => simp [PE.thrT, PE.tk]
  | ref t => simp [PE.thrT]
  | str t => simp [PE.thrT]
  | cls t => simp [PE.thrT]
  | dot t => simp [PE.thrT]
  | grp o e c ih => simp only [PE.thrT, PE.tk, List.length_cons, List.length_append]; omega
  | star e t ih => simp only [PE.thrT, PE.tk, List.length_append]; omega
  | opt e t ih => simp only [PE.thrT, PE.tk, List.length_append]; omega
  | not t e ih => simp only [PE.thrT, PE.tk, List.length_cons]; omega
  | amp t e ih => simp only [PE.thrT, PE.tk, List.length_cons]; omega
  | emp => simp [PE.thrT]
  | seq a b iha ihb => simp only [PE.thrT, PE.tk, List.length_append]; omega
  | alt a t b iha ihb => simp only [PE.thrT, PE.tk, List.length_append, List.length_cons]; omega
theorem tx_len : ∀ (qs : List Rl), qs.length + (thrTs qs).length ≤ (qs.flatMap Rl.tk).length
  | [] => Nat.le_refl _
  | q :: r => by
    have h1 := tx_len r
    have h2 := thr_len q.body
    have e : thrTs (q :: r) = q.body.thrT ++ thrTs r := rfl
    rw [e, List.length_cons, List.flatMap_cons, List.length_append, List.length_append]
    have h3 : q.body.tk.length + 1 ≤ q.tk.length := by unfold Rl.tk; simp only [List.length_append, List.length_cons]; omega
    omega
theorem tx_big {t : Tx} {qs : List Rl} (h : toksT t = qs.flatMap Rl.tk) (hn : t.n ≤ 4000) : qs.length + (thrTs qs).length ≤ 8000 := by
  have h1 := tx_wt h hn
  have h2 := wtT_len (qs.flatMap Rl.tk)
  have h3 := tx_len qs
  omega
theorem tx_nmq {t : Tx} {qs : List Rl} (h : toksT t = qs.flatMap Rl.tk) (hn : t.n ≤ 4000) : NmQ qs := fun q hq => by
  have := (tx_tok h q hq).1
  exact ⟨this.byt, by have := this.len; omega⟩
theorem tx_nmr {t : Tx} {qs : List Rl} (h : toksT t = qs.flatMap Rl.tk) (hn : t.n ≤ 4000) : NmT (refTs qs) := fun x hx => by
  obtain ⟨q, hq, hx⟩ := List.mem_flatMap.1 hx
  have := (tx_tok h q hq).2 x (refT_tk _ x hx)
  exact ⟨this.byt, by have := this.len; omega⟩
theorem tx_nmt {t : Tx} {qs : List Rl} (h : toksT t = qs.flatMap Rl.tk) (hn : t.n ≤ 4000) : NmT (thrTs qs) := fun x hx => by
  obtain ⟨q, hq, hx⟩ := List.mem_flatMap.1 hx
  have := (tx_tok h q hq).2 x (thrT_tk _ x hx)
  exact ⟨this.byt, by have := this.len; omega⟩
theorem TxH.buH {t : Tx} {qs : List Rl} {ls : List (List Int)} (h : TxH t.n qs ls) (ht : toksT t = qs.flatMap Rl.tk) (hn : t.n ≤ 4000) : BuH qs ls :=
  ⟨tx_nmq ht hn, h.dup, h.asc, h.recIn, h.refIn, h.thrIn, fun q hq => (ops_smD (namesOf qs) ls hq (h.ok q hq) (tx_wt ht hn) (h.tok q hq).2 hn).1⟩
theorem TxH.smR {t : Tx} {qs : List Rl} {ls : List (List Int)} (h : TxH t.n qs ls) (ht : toksT t = qs.flatMap Rl.tk) (hn : t.n ≤ 4000) : ∀ x ∈ rulesNL (namesOf qs) ls qs, SmNL x := fun x hx => by
  unfold rulesNL at hx
  obtain ⟨q, hq, rfl⟩ := List.mem_map.1 hx
  have hqm := (List.mem_filter.1 hq).1
  exact ⟨by have := (h.tok q hqm).1.len; show q.name.nm.length ≤ _; omega, (h.tok q hqm).1.byt, ops_smD _ _ hqm (h.ok q hqm) (tx_wt ht hn) (h.tok q hqm).2 hn⟩
theorem TxH.smL {t : Tx} {qs : List Rl} {ls : List (List Int)} (h : TxH t.n qs ls) (ht : toksT t = qs.flatMap Rl.tk) (hn : t.n ≤ 4000) : ∀ x ∈ labsNL (namesOf qs) ls qs, SmNL x := fun x hx => by
  have hb : ∀ z ∈ ls, BytL z ∧ z.length ≤ 1000000 := fun z hz => by
    rcases (h.mem z).1 hz with hr | ⟨x, hx, rfl⟩
    · obtain ⟨q, hq, rfl⟩ := List.mem_map.1 hr
      exact tx_nmq ht hn q (List.mem_filter.1 hq).1
    · exact tx_nmt ht hn x hx
  unfold labsNL at hx
  obtain ⟨z, hz, rfl⟩ := List.mem_map.1 hx
  refine ⟨by rw [labNL_nm]; have := (hb z hz).2; omega, by rw [labNL_nm]; exact (hb z hz).1, ?_⟩
  unfold labNL
  split
  · rename_i q hq
    have hqm := List.mem_of_find?_eq_some hq
    exact ops_smD _ _ hqm (h.ok q hqm) (tx_wt ht hn) (h.tok q hqm).2 hn
  · exact ⟨Nat.zero_le _, (fun x hx => by cases hx)⟩
theorem TxH.nr {t : Tx} {qs : List Rl} {ls : List (List Int)} (ht : toksT t = qs.flatMap Rl.tk) (hn : t.n ≤ 4000) : (rulesNL (namesOf qs) ls qs).length ≤ 1048576 := by
  unfold rulesNL
  rw [List.length_map]
  have := List.length_filter_le (fun q : Rl => !q.car.isSome) qs
  have := tx_big ht hn
  omega
theorem TxH.small {t : Tx} {qs : List Rl} {ls : List (List Int)} (h : TxH t.n qs ls) (ht : toksT t = qs.flatMap Rl.tk) (hn : t.n ≤ 4000) (hl : ls.length ≤ 1000000) : SmallG (gramOf ls qs) :=
  gram_small (TxH.nr ht hn) (by unfold labsNL; rw [List.length_map]; omega) (h.smR ht hn) (h.smL ht hn)
theorem name_fault {t : Tx} {qs : List Rl} {p : Nat} (hn : t.n ≤ 4000) (ht : toksT t = qs.flatMap Rl.tk) (hok : ∀ q ∈ qs, q.ok) (hrd : rdAll t.n ((toksT t).length + 1) (toksT t) = .inr qs) (h : NameBad t.n qs p) : PRs t 6 (p : Nat) zeroG := by
  refine .inr ⟨hn, .inr ⟨qs, hrd, ?_⟩⟩
  unfold TailRes
  have hr := refB_refsF (namesOf qs) qs hok
  rcases h with h | ⟨h1, h | ⟨h2, h3, h4⟩⟩
  · rw [h]; exact ⟨rfl, rfl, rfl⟩
  · rw [hr] at h
    rw [h1, h]; exact ⟨rfl, rfl, rfl⟩
  · rw [hr] at h2
    rw [h1, h2, h4]
    simp only [h3, if_true]
    exact ⟨trivial, trivial, trivial⟩
theorem tail_res {t : Tx} {qs : List Rl} {ls : List (List Int)} {code at_ : Int} {g : Gr} (hn : t.n ≤ 4000) (ht : toksT t = qs.flatMap Rl.tk) (hrd : rdAll t.n ((toksT t).length + 1) (toksT t) = .inr qs) (h : TxH t.n qs ls) (hr : (M.Valid (gramOf ls qs) ∧ code = 0 ∧ at_ = 0 ∧ g = gramOf ls qs) ∨ (¬ M.Valid (gramOf ls qs) ∧ code = 7 ∧ at_ = 0 ∧ g = zeroG)) : PRs t code at_ g := by
  refine .inr ⟨hn, .inr ⟨qs, hrd, ?_⟩⟩
  unfold TailRes
  have e := refB_refsF (namesOf qs) qs h.ok
  rw [h.refs] at e
  rw [h.dup, ← e]
  simp only [h.ne, if_false]
  exact ⟨ls, h.asc, fun z => (h.mem z).trans (mem_labsAll h.ok z).symm, hr⟩
end
end Go.Proofs.YteoddjobpmmgeaaGreat
