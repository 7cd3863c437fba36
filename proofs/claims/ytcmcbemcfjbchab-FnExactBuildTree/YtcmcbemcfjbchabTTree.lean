/-
  Trees from events: what a list of events says, plainly.
-/
import Derived.Test.YtcmcbemcfjbchabTMem
namespace Go.Proofs.Ytcmcbemcfjbchab
set_option linter.unusedVariables false
set_option linter.unusedSimpArgs false

/-! ### What a list of events says -/
def cls (E : Nat → EvD) (i : Nat) : Bool := (E i).kind == 2
/-- How many are open ahead of event i. -/
def opn (E : Nat → EvD) : Nat → Int
  | 0 => 0
  | i + 1 => if cls E i then opn E i - 1 else opn E i + 1
/-- The depth of event i. -/
def dpt (E : Nat → EvD) (i : Nat) : Int := if cls E i then opn E i else opn E i + 1
structure EvOK (E : Nat → EvD) (i : Nat) : Prop where
  lo : 0 ≤ (E i).kind
  hi : (E i).kind ≤ 2
  pos : 0 ≤ (E i).pos
  asc : 0 < i → (E (i - 1)).pos ≤ (E i).pos
  room : 0 ≤ opn E (i + 1)
def Pre (E : Nat → EvD) (i : Nat) : Prop := ∀ j, j < i → EvOK E j
def Whole (E : Nat → EvD) (n : Nat) : Prop := Pre E n ∧ opn E n = 0
/-- The events that open. -/
def ops (E : Nat → EvD) : Nat → List Nat
  | 0 => []
  | i + 1 => if cls E i then ops E i else ops E i ++ [i]
def num (E : Nat → EvD) (i : Nat) : Nat := (ops E i).length
/-- The last node of a depth. -/
def las (E : Nat → EvD) : Nat → Int → Int
  | 0, d => if d = 0 then -1 else 0
  | i + 1, d => if cls E i = false ∧ d = opn E i + 1 then (num E i : Int) else las E i d
/-- Where the first close of depth d stands, in the last k events. -/
def fin_ (E : Nat → EvD) (n : Nat) : Nat → Int → Int
  | 0, _ => 0
  | k + 1, d => if cls E (n - (k + 1)) = true ∧ opn E (n - (k + 1)) = d then (E (n - (k + 1))).pos else fin_ E n k d
/-- The To of the node that event j opens, ahead of event i. -/
def tov (E : Nat → EvD) : Nat → Nat → Int
  | 0, _ => 0
  | i + 1, j => if cls E i = true ∧ las E i (opn E i) = (num E j : Int) then (E i).pos else tov E i j

theorem opn_le (E : Nat → EvD) (i : Nat) : opn E i ≤ i := by
  induction i with
  | zero => simp [opn]
  | succ i ih => rw [opn]; split <;> omega
theorem opn_ge {E : Nat → EvD} {i : Nat} (h : Pre E i) : 0 ≤ opn E i := by
  cases i with
  | zero => simp [opn]
  | succ i => exact (h i (by omega)).room
theorem Pre.less {E : Nat → EvD} {i j : Nat} (h : Pre E i) (hj : j ≤ i) : Pre E j := fun k hk => h k (by omega)
theorem num_mono (E : Nat → EvD) {i j : Nat} (h : i ≤ j) : num E i ≤ num E j := by
  induction j with
  | zero => obtain rfl : i = 0 := by omega
            exact Nat.le_refl _
  | succ j ih =>
    by_cases e : i = j + 1
    · subst e; exact Nat.le_refl _
    · have := ih (by omega)
      have h2 : num E j ≤ num E (j + 1) := by
        unfold num
        rw [ops]; split <;> simp
      omega
theorem num_open (E : Nat → EvD) {i : Nat} (h : cls E i = false) : num E (i + 1) = num E i + 1 := by unfold num; rw [ops, h]; simp
theorem num_lt (E : Nat → EvD) {i j : Nat} (h : cls E i = false) (hj : i < j) : num E i < num E j := by
  have h1 := num_open E h
  have h2 := num_mono E (show i + 1 ≤ j by omega)
  omega
theorem num_le (E : Nat → EvD) (i : Nat) : num E i ≤ i := by
  induction i with
  | zero => exact Nat.le_refl _
  | succ i ih =>
    unfold num at *
    rw [ops]
    cases cls E i <;> simp <;> omega
theorem ops_mem (E : Nat → EvD) {n j : Nat} (h : j ∈ ops E n) : j < n ∧ cls E j = false := by
  induction n with
  | zero => simp [ops] at h
  | succ n ih =>
    rw [ops] at h
    cases hc : cls E n with
    | true => rw [hc] at h; simp at h; have := ih h; exact ⟨by omega, this.2⟩
    | false =>
      rw [hc] at h
      simp at h
      rcases h with h | rfl
      · have := ih h; exact ⟨by omega, this.2⟩
      · exact ⟨by omega, hc⟩
theorem ops_at (E : Nat → EvD) {j : Nat} (hc : cls E j = false) : ∀ {n : Nat}, j < n → (ops E n)[num E j]? = some j := by
  intro n
  induction n with
  | zero => intro h; omega
  | succ n ih =>
    intro h
    by_cases e : j = n
    · subst e
      rw [ops, hc]
      simp [num]
    · have h1 := ih (by omega)
      rw [ops]
      cases hn : cls E n with
      | true => simpa using h1
      | false =>
        simp only [Bool.false_eq_true, if_false]
        rw [List.getElem?_append_left (num_lt E hc (by omega))]
        exact h1

/-- The nodes that are open: one of each depth, the deeper the later. -/
structure LasOK (E : Nat → EvD) (i : Nat) : Prop where
  zero : las E i 0 = -1
  ge : ∀ d, 1 ≤ d → d ≤ opn E i → 0 ≤ las E i d
  lt : ∀ d, 0 ≤ d → d ≤ opn E i → las E i d < num E i
  mono : ∀ d e, 0 ≤ d → d < e → e ≤ opn E i → las E i d < las E i e
  chain : ∀ d, 1 ≤ d → d ≤ opn E i → ∃ j, j < i ∧ cls E j = false ∧ las E i d = (num E j : Int) ∧ las E j (opn E j) = las E i (d - 1) ∧ opn E j + 1 = d
theorem las_open {E : Nat → EvD} {i : Nat} (hc : cls E i = false) (d : Int) : las E (i + 1) d = if d = opn E i + 1 then (num E i : Int) else las E i d := by
  rw [las]; simp [hc]
theorem las_close {E : Nat → EvD} {i : Nat} (hc : cls E i = true) (d : Int) : las E (i + 1) d = las E i d := by
  rw [las]; simp [hc]
theorem opn_open {E : Nat → EvD} {i : Nat} (hc : cls E i = false) : opn E (i + 1) = opn E i + 1 := by rw [opn]; simp [hc]
theorem opn_close {E : Nat → EvD} {i : Nat} (hc : cls E i = true) : opn E (i + 1) = opn E i - 1 := by rw [opn]; simp [hc]
theorem num_close {E : Nat → EvD} {i : Nat} (hc : cls E i = true) : num E (i + 1) = num E i := by unfold num; rw [ops]; simp [hc]
theorem las_ok {E : Nat → EvD} {i : Nat} (h : Pre E i) : LasOK E i := by
  induction i with
  | zero =>
    have h0 : opn E 0 = 0 := rfl
    refine ⟨by simp [las], fun d h1 h2 => by omega, fun d h1 h2 => ?_, fun d e h0 h1 h2 => by omega, fun d h1 h2 => by omega⟩
    obtain rfl : d = 0 := by omega
    simp [las, num, ops]
  | succ i ih =>
    have hp := h.less (show i ≤ i + 1 by omega)
    have k := ih hp
    have g := opn_ge hp
    have g1 := opn_ge h
    cases hc : cls E i with
    | false =>
      have ho := opn_open hc
      have hl := las_open hc
      have hn := num_open E hc
      refine ⟨?_, fun d h1 h2 => ?_, fun d h1 h2 => ?_, fun d e h0 h1 h2 => ?_, fun d h1 h2 => ?_⟩
      · rw [hl, if_neg (by omega)]; exact k.zero
      · rw [hl]; split
        · omega
        · exact k.ge d h1 (by omega)
      · rw [hl]; split
        · omega
        · have := k.lt d h1 (by omega); omega
      · rw [hl, hl, if_neg (show ¬ d = _ by omega)]; split
        · exact k.lt d h0 (by omega)
        · exact k.mono d e h0 h1 (by omega)
      · by_cases e : d = opn E i + 1
        · refine ⟨i, by omega, hc, ?_, ?_, e.symm⟩
          · rw [hl, if_pos e]
          · rw [hl, if_neg (by omega), show d - 1 = opn E i by omega]
        · obtain ⟨j, j1, j2, j3, j4, j5⟩ := k.chain d h1 (by omega)
          refine ⟨j, by omega, j2, ?_, ?_, j5⟩
          · rw [hl, if_neg e]; exact j3
          · rw [hl, if_neg (by omega)]; exact j4
    | true =>
      have ho := opn_close hc
      have hl := las_close hc
      have hn := num_close hc
      refine ⟨?_, fun d h1 h2 => ?_, fun d h1 h2 => ?_, fun d e h0 h1 h2 => ?_, fun d h1 h2 => ?_⟩
      · rw [hl]; exact k.zero
      · rw [hl]; exact k.ge d h1 (by omega)
      · rw [hl, hn]; exact k.lt d h1 (by omega)
      · rw [hl, hl]; exact k.mono d e h0 h1 (by omega)
      · obtain ⟨j, j1, j2, j3, j4, j5⟩ := k.chain d h1 (by omega)
        exact ⟨j, by omega, j2, by rw [hl]; exact j3, by rw [hl]; exact j4, j5⟩

theorem tov_early {E : Nat → EvD} {i j : Nat} (h : Pre E i) (hj : i ≤ j) : tov E i j = 0 := by
  induction i with
  | zero => rfl
  | succ i ih =>
    have hp := h.less (show i ≤ i + 1 by omega)
    rw [tov, if_neg, ih hp (by omega)]
    rintro ⟨hc, e⟩
    have k := (las_ok hp).lt (opn E i) (opn_ge hp) (Int.le_refl _)
    have := num_mono E (show i ≤ j by omega)
    omega
theorem fin_at (E : Nat → EvD) {n i : Nat} (hi : i < n) (d : Int) : fin_ E n (n - i) d = if cls E i = true ∧ opn E i = d then (E i).pos else fin_ E n (n - (i + 1)) d := by
  obtain ⟨k, hk⟩ : ∃ k, n - i = k + 1 := ⟨n - i - 1, by omega⟩
  rw [hk, fin_, show n - (k + 1) = i by omega, show n - (i + 1) = k by omega]

theorem tov_end {E : Nat → EvD} {n j : Nat} (h : Whole E n) (hj : j < n) (hc : cls E j = false) : tov E n j = fin_ E n (n - j) (opn E j + 1) := by
  obtain ⟨hp, h0⟩ := h
  have key : ∀ i, j < i → i ≤ n →
      (opn E j + 1 ≤ opn E i ∧ las E i (opn E j + 1) = (num E j : Int) ∧ tov E i j = 0 ∧ fin_ E n (n - j) (opn E j + 1) = fin_ E n (n - i) (opn E j + 1)) ∨
      ((∀ e, 1 ≤ e → e ≤ opn E i → las E i e ≠ (num E j : Int)) ∧ tov E i j = fin_ E n (n - j) (opn E j + 1)) := by
    intro i
    induction i with
    | zero => intro h; omega
    | succ i ih =>
      intro h1 h2
      have hpi := hp.less (show i ≤ n by omega)
      have gi := opn_ge hpi
      have gj := opn_ge (hp.less (show j ≤ n by omega))
      have gi1 := opn_ge (hp.less (show i + 1 ≤ n by omega))
      have k := las_ok hpi
      by_cases e : i = j
      · subst e
        refine .inl ⟨by rw [opn_open hc]; omega, by rw [las_open hc, if_pos rfl], ?_, ?_⟩
        · rw [tov, if_neg (by simp [hc]), tov_early hpi (Nat.le_refl _)]
        · rw [fin_at E (by omega), if_neg (by simp [hc])]
      · rcases ih (by omega) (by omega) with ⟨a1, a2, a3, a4⟩ | ⟨b1, b2⟩
        · cases hi : cls E i with
          | false =>
            refine .inl ⟨by rw [opn_open hi]; omega, by rw [las_open hi, if_neg (by omega)]; exact a2, by rw [tov, if_neg (by simp [hi])]; exact a3, ?_⟩
            rw [a4, fin_at E (show i < n by omega), if_neg (by simp [hi])]
          | true =>
            have ho := opn_close hi
            by_cases ed : opn E i = opn E j + 1
            · refine .inr ⟨fun e he1 he2 => ?_, ?_⟩
              · rw [las_close hi]
                have := k.mono e (opn E j + 1) (by omega) (by omega) (by omega)
                omega
              · rw [tov, if_pos ⟨hi, by rw [ed]; exact a2⟩, a4, fin_at E (show i < n by omega), if_pos ⟨hi, ed⟩]
            · refine .inl ⟨by omega, by rw [las_close hi]; exact a2, ?_, ?_⟩
              · rw [tov, if_neg]; exact a3
                rintro ⟨_, q⟩
                have := k.mono (opn E j + 1) (opn E i) (by omega) (by omega) (by omega)
                omega
              · rw [a4, fin_at E (show i < n by omega), if_neg (by simp [ed])]
        · cases hi : cls E i with
          | false =>
            refine .inr ⟨fun e he1 he2 => ?_, by rw [tov, if_neg (by simp [hi])]; exact b2⟩
            rw [opn_open hi] at he2
            rw [las_open hi]
            split
            · have := num_lt E hc (show j < i by omega); omega
            · exact b1 e he1 (by omega)
          | true =>
            have ho := opn_close hi
            refine .inr ⟨fun e he1 he2 => ?_, ?_⟩
            · rw [las_close hi]; exact b1 e he1 (by omega)
            · rw [tov, if_neg]; exact b2
              rintro ⟨_, q⟩
              exact b1 _ (by omega) (Int.le_refl _) q
  rcases key n hj (Nat.le_refl _) with ⟨a1, _⟩ | ⟨_, b⟩
  · have := opn_ge (hp.less (show j ≤ n by omega))
    omega
  · exact b
/-! ### The rows of nodes -/
theorem ops_num (E : Nat → EvD) {n q x : Nat} (h : (ops E n)[q]? = some x) : q = num E x := by
  induction n with
  | zero => simp [ops] at h
  | succ n ih =>
    rw [ops] at h
    cases hc : cls E n with
    | true => rw [hc] at h; exact ih (by simpa using h)
    | false =>
      rw [hc] at h
      simp only [Bool.false_eq_true, if_false] at h
      by_cases hq : q < (ops E n).length
      · rw [List.getElem?_append_left hq] at h; exact ih h
      · rw [List.getElem?_append_right (by omega)] at h
        have : q - (ops E n).length = 0 := by
          by_cases e : q - (ops E n).length = 0
          · exact e
          · obtain ⟨k, hk⟩ : ∃ k, q - (ops E n).length = k + 1 := ⟨q - (ops E n).length - 1, by omega⟩
            rw [hk] at h; simp at h
        rw [this] at h
        simp at h
        subst h
        unfold num; omega
theorem flat_congr {α : Type} {f f' : Nat → List α} (l : List Nat) (h : ∀ y, y ∈ l → f' y = f y) : l.flatMap f' = l.flatMap f := by
  induction l with
  | nil => rfl
  | cons y l ih => rw [List.flatMap_cons, List.flatMap_cons, h y (by simp), ih (fun z hz => h z (by simp [hz]))]
theorem flat_set {α : Type} (f f' : Nat → List α) (v : α) : ∀ (l : List Nat) (k : Nat), (∀ x, x ∈ l → (f x).length = 5) → k < l.length → (∀ q x, l[q]? = some x → f' x = if q = k then (f x).set 3 v else f x) →
    (l.flatMap f).set (k * 5 + 3) v = l.flatMap f'
  | [], k, _, hk, _ => by simp at hk
  | x :: l, 0, hl, _, h => by
    have h0 := h 0 x rfl
    have hr : l.flatMap f' = l.flatMap f := by
      have : ∀ y, y ∈ l → f' y = f y := fun y hy => by
        obtain ⟨q, hq, rfl⟩ := List.getElem_of_mem hy
        have := h (q + 1) l[q] (by simp [hq])
        rw [this, if_neg (by omega)]
      exact flat_congr l this
    rw [List.flatMap_cons, List.flatMap_cons, hr, h0, if_pos rfl, List.set_append_left _ _ (by rw [hl x (by simp)]; omega)]
  | x :: l, k + 1, hl, hk, h => by
    have h0 := h 0 x rfl
    rw [if_neg (by omega)] at h0
    rw [List.flatMap_cons, List.flatMap_cons, h0, List.set_append_right _ _ (by rw [hl x (by simp)]; omega), hl x (by simp), show (k + 1) * 5 + 3 - 5 = k * 5 + 3 by omega]
    rw [flat_set f f' v l k (fun y hy => hl y (by simp [hy])) (by simpa using hk) (fun q y hq => ?_)]
    have := h (q + 1) y (by simpa using hq)
    rw [this]
    by_cases e : q = k
    · rw [if_pos e, if_pos (by omega)]
    · rw [if_neg e, if_neg (by omega)]
theorem flat_len {α : Type} (f : Nat → List α) (l : List Nat) (h : ∀ x, x ∈ l → (f x).length = 5) : (l.flatMap f).length = l.length * 5 := by
  induction l with
  | nil => rfl
  | cons x l ih =>
    rw [List.flatMap_cons, List.length_append, h x (by simp), ih (fun y hy => h y (by simp [hy])), List.length_cons]
    omega
theorem flat_get {α : Type} (f : Nat → List α) : ∀ (l : List Nat) (i j x : Nat), (∀ x, x ∈ l → (f x).length = 5) → l[i]? = some x → j < 5 → (l.flatMap f)[i * 5 + j]? = (f x)[j]?
  | [], i, j, x, _, h, _ => by simp at h
  | y :: l, 0, j, x, hl, h, hj => by
    simp at h
    subst h
    rw [List.flatMap_cons, List.getElem?_append_left (by rw [hl y (by simp)]; omega)]
    simp
  | y :: l, i + 1, j, x, hl, h, hj => by
    simp at h
    rw [List.flatMap_cons, List.getElem?_append_right (by rw [hl y (by simp)]; omega), hl y (by simp), show (i + 1) * 5 + j - 5 = i * 5 + j by omega]
    exact flat_get f l i j x (fun z hz => hl z (by simp [hz])) h hj

/-- The node that event j opens, as the whole list says. -/
def ndS (E : Nat → EvD) (n j : Nat) : NdD := ⟨(E j).kind, (E j).arg, (E j).pos, fin_ E n (n - j) (opn E j + 1), las E j (opn E j)⟩
/-- The same, as the events ahead of i say. -/
def ndI (E : Nat → EvD) (i j : Nat) : NdD := ⟨(E j).kind, (E j).arg, (E j).pos, tov E i j, las E j (opn E j)⟩
def ndv (d : NdD) : List Value := [.int .i64 d.kind, .int .i64 d.arg, .int .i64 d.frm, .int .i64 d.to, .int .i64 d.par]
theorem ndv_len (d : NdD) : (ndv d).length = 5 := rfl
def rowS (E : Nat → EvD) (n i : Nat) : List Value := (ops E i).flatMap (fun j => ndv (ndS E n j))
def rowI (E : Nat → EvD) (i : Nat) : List Value := (ops E i).flatMap (fun j => ndv (ndI E i j))
theorem rowS_open {E : Nat → EvD} {n i : Nat} (h : cls E i = false) : rowS E n (i + 1) = rowS E n i ++ ndv (ndS E n i) := by
  unfold rowS; rw [ops, h]; simp
theorem rowS_close {E : Nat → EvD} {n i : Nat} (h : cls E i = true) : rowS E n (i + 1) = rowS E n i := by
  unfold rowS; rw [ops, h]; simp
theorem rowI_open {E : Nat → EvD} {i : Nat} (hp : Pre E i) (h : cls E i = false) : rowI E (i + 1) = rowI E i ++ ndv ⟨(E i).kind, (E i).arg, (E i).pos, 0, las E i (opn E i)⟩ := by
  unfold rowI
  have e : ∀ j, tov E (i + 1) j = tov E i j := fun j => by rw [tov, if_neg (by simp [h])]
  have e2 : ndI E (i + 1) i = ⟨(E i).kind, (E i).arg, (E i).pos, 0, las E i (opn E i)⟩ := by unfold ndI; rw [e, tov_early hp (Nat.le_refl _)]
  rw [ops, h]
  simp only [Bool.false_eq_true, if_false, List.flatMap_append, List.flatMap_cons, List.flatMap_nil, List.append_nil]
  rw [e2]
  congr 1
  refine flat_congr _ (fun j _ => ?_)
  unfold ndI
  rw [e]
theorem rowI_close {E : Nat → EvD} {i k : Nat} (h : cls E i = true) (hk : las E i (opn E i) = (k : Int)) (hlt : k < num E i) : rowI E (i + 1) = (rowI E i).set (k * 5 + 3) (.int .i64 (E i).pos) := by
  unfold rowI
  rw [ops, h]
  simp only [if_true]
  refine (flat_set _ _ _ _ k (fun x _ => ndv_len _) hlt (fun q x hq => ?_)).symm
  have hn := ops_num E hq
  by_cases e : q = k
  · have ht : tov E (i + 1) x = (E i).pos := by rw [tov, if_pos ⟨h, by rw [hk, ← e, hn]⟩]
    rw [if_pos e]
    unfold ndI
    rw [ht]
    rfl
  · have ht : tov E (i + 1) x = tov E i x := by rw [tov, if_neg (fun q2 => e (by have := q2.2; rw [hk] at this; omega))]
    rw [if_neg e]
    unfold ndI
    rw [ht]
theorem rowI_end {E : Nat → EvD} {n : Nat} (h : Whole E n) : rowI E n = rowS E n n := by
  unfold rowI rowS
  refine flat_congr _ (fun j hj => ?_)
  obtain ⟨h1, h2⟩ := ops_mem E hj
  unfold ndI ndS
  rw [tov_end h h1 h2]
theorem rowS_len (E : Nat → EvD) (n i : Nat) : (rowS E n i).length = num E i * 5 := flat_len _ _ (fun _ _ => ndv_len _)
theorem rowI_len (E : Nat → EvD) (i : Nat) : (rowI E i).length = num E i * 5 := flat_len _ _ (fun _ _ => ndv_len _)
/-- The nodes of the whole list, by number. -/
def nodesOf (E : Nat → EvD) (n k : Nat) : NdD := ndS E n ((ops E n).getD k 0)
theorem rowS_at (E : Nat → EvD) (n : Nat) {k j : Nat} (hk : k < num E n) (hj : j < 5) : (rowS E n n)[k * 5 + j]? = (ndv (nodesOf E n k))[j]? := by
  have hx : (ops E n)[k]? = some ((ops E n).getD k 0) := by
    rw [List.getD_eq_getElem?_getD, List.getElem?_eq_getElem hk]; rfl
  exact flat_get (fun j => ndv (ndS E n j)) _ k j _ (fun _ _ => ndv_len _) hx hj
/-- A row of nodes that the answer owns. -/
theorem own_nodes {Q : Nat → Prop} {w : World} {a : Option Addr} {c : Nat} {E : Nat → EvD} {n : Nat} (h : OwnC Q w (.slice a (num E n) c) 5 (num E n) (rowS E n n)) : NdA Q w a (num E n) (nodesOf E n) := by
  rcases h with ⟨_, e, _⟩ | ⟨g, cap, e, hq, hl, hc, hcell, hw⟩
  · exact .inl e
  · obtain rfl : a = some ⟨g, 0, none⟩ := by injection e
    refine .inr ⟨g, rfl, hq, fun j hj => (hw j (by omega)).2, fun i hi => ?_⟩
    have hg : ∀ j, j < 5 → w.cell? ⟨g, i * 5 + j, none⟩ = (ndv (nodesOf E n i))[j]? := fun j hj => by
      rw [hcell _ (by rw [rowS_len]; omega), rowS_at E n hi hj]
    exact ⟨hg 0 (by omega), hg 1 (by omega), hg 2 (by omega), hg 3 (by omega), hg 4 (by omega)⟩

end Go.Proofs.Ytcmcbemcfjbchab
