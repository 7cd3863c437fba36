import Derived.Test.YtjpcojabdjldbaaSNuB
import Derived.Test.YtjpcojabdjldbaaOpn
import Derived.Test.YtjpcojabdjldbaaLefts
import Derived.Test.YtjpcojabdjldbaaStk
import Derived.Test.YtjpcojabdjldbaaSBeg
import Derived.Test.YtjpcojabdjldbaaAnsw

/-
  Walks: whether some star repeats what is nullable, by the specification.
-/
namespace Go.Proofs.Ytjpcojabdjldbaa
open Go.RowKit
open M (OpD NodeD Gr)
set_option linter.unusedVariables false
set_option linter.unusedSimpArgs false

/-- The star at i repeats what is nullable. -/
def StarAt (nr : Nat) (mk : Nat → Bool) (B : Nat → OpD) (i : Nat) : Prop := (B i).kind = 6 ∧ M.top (M.stk (M.fN nr mk) B i) = true
def lpI (X : World) (n : Nat) (P : Nat → Prop) (iv : Value) (wr : World) : Prop :=
  ∃ k : Nat, 1 ≤ k ∧ (k ≤ n ∨ k = 1) ∧ iv = .int .i64 (k : Int) ∧ (∀ i, i < k → ¬ P i) ∧ Below X.heap.size X wr

theorem star_at {α : Type} [Inhabited α] (f : OpD → α → α → α) (B : Nat → OpD) (k n : Nat) (hF : M.Fed B n) (hk : k < n) (h6 : (B k).kind = 6) :
    ∃ s y, s < k ∧ M.stk f B k = (s, y) :: M.stk f B s ∧ M.dep B s + 1 = M.dep B k ∧ ∀ j, s < j → j ≤ k → M.dep B k ≤ M.dep B j := by
  have hi := hF k hk
  rw [h6, M.ar6] at hi
  have hl := M.stk_len f B k (hF.less (by omega))
  match hs : M.stk f B k with
  | [] => rw [hs] at hl; simp at hl; omega
  | (s, y) :: r =>
    obtain ⟨a1, a2, a3⟩ := M.stk_cons f B k (hF.less (by omega)) s y r hs
    have l2 := M.stk_len f B s (hF.less (by omega))
    rw [hs] at hl
    rw [← a2] at l2
    simp at hl
    exact ⟨s, y, a1, by rw [a2], by omega, a3⟩

set_option maxRecDepth 100000 in
set_option maxHeartbeats 8000000 in
theorem l3loops_any (Q : Nat → Prop) (ra la a : Option Addr) (nr rc nb lc n c : Nat) (B : Nat → OpD) (mb mo mc : Nat) (mk : Nat → Bool) (w : World) (h1 : nr ≤ 100) (h2 : nb ≤ 100) (hn : n ≤ 1048576) (hc : n ≤ c) (hB : OpsA Q w a n B) (hok : n = 0 ∨ M.BodyOK nr nb n B) (hM : BoolsA w mb mo (nr + nb) mk) :
    Calls Try.prog 67 #[.agg #[.slice ra nr rc, .slice la nb lc], .slice a n c, .slice (some ⟨mb, mo, none⟩) (nr + nb) mc] w (SaysB (∃ i, i < n ∧ StarAt nr mk B i) w) := by
  have HB : Hid (OpsA Q w a n B) := hB
  have HM : Hid (BoolsA w mb mo (nr + nb) mk) := hM
  have HK : Hid (n = 0 ∨ M.BodyOK nr nb n B) := hok
  have HX : Hid (Below w.heap.size w (w.alloc (.cells #[.slice ra nr rc, .slice la nb lc] 36))) := bel1 w _
  have xg0 : (w.alloc (.cells #[.slice ra nr rc, .slice la nb lc] 36)).cell? ⟨w.heap.size, 0, none⟩ = some (.slice ra nr rc) := cN w.heap.size rfl rfl
  have xg1 : (w.alloc (.cells #[.slice ra nr rc, .slice la nb lc] 36)).cell? ⟨w.heap.size, 1, none⟩ = some (.slice la nb lc) := cN w.heap.size rfl rfl
  clear hB hM hok
  go_enter Try.func67, Try.ntmps67
  go_wp2
  generalize w.alloc (.cells #[.slice ra nr rc, .slice la nb lc] 36) = X at *
  go_loopw [7] (fun iv wr => lpI X n (StarAt nr mk B) iv wr) (fun iv _ => n - (intOf iv).toNat)
  case atStart =>
    refine ⟨1, Nat.le_refl _, .inr rfl, rfl, fun i hi q => ?_, Below.refl _ _⟩
    obtain rfl : i = 0 := by omega
    have := q.2
    simp [M.stk, M.top] at this
  case round =>
    obtain ⟨k, hk1, hk, rfl, hno, hbel⟩ := hrel
    have HNO : Hid (∀ i, i < k → ¬ StarAt nr mk B i) := hno
    have HBE : Hid (Below X.heap.size X wr) := hbel
    have g0 := cell_on xg0 hbel
    have g1 := cell_on xg1 hbel
    have HBW : Hid (Below w.heap.size w wr) := bel_tr HX.out hbel
    clear hno hbel
    by_cases hlt : k < n
    · obtain ⟨b, off, rfl, hq, hOps⟩ : ∃ b off, a = some ⟨b, off, none⟩ ∧ Q b ∧ ∀ i, i < n → OpC Q wr b (off + i * 3) (B i) := by
        rcases (HB.out.later HBW.out) with q | q
        · omega
        · exact q
      have HOPS : Hid (∀ i, i < n → OpC Q wr b (off + i * 3) (B i)) := hOps
      have hOK : M.BodyOK nr nb n B := by
        rcases HK.out with q | q
        · omega
        · exact q
      have HOK : Hid (M.BodyOK nr nb n B) := hOK
      obtain ⟨c0, _, _⟩ := hOps k hlt
      have hbl : b < wr.heap.size := lt_of_cell c0
      clear hOps hOK hq
      by_cases h6 : (B k).kind = 6
      · have f6 : ((B k).kind == 6) = true := by simp [h6]
        have H6 : Hid ((B k).kind = 6) := h6
        obtain ⟨s, y, hsk, st, d1, d2⟩ := star_at (M.fN nr mk) B k n HOK.out.2.1 hlt h6
        have ST : Hid (M.stk (M.fN nr mk) B k = (s, y) :: M.stk (M.fN nr mk) B s) := st
        have D1 : Hid (M.dep B s + 1 = M.dep B k) := d1
        have D2 : Hid (∀ j, s < j → j ≤ k → M.dep B k ≤ M.dep B j) := d2
        have HTOP : Hid (M.top (M.stk (M.fN nr mk) B k) = y) := by show _ = _; rw [st]; rfl
        have z1 : ¬ c = s := by omega
        have z2 : s ≤ k := by omega
        have z3 : k ≤ c := by omega
        have z4 : s ≤ c := by omega
        have z5 : ¬ c = 0 := by omega
        have z6 := wrap_small k (by omega)
        have z7 := wrap_small s (by omega)
        clear h6 st d1 d2
        go_wp2
        go_region_with (first | (go_at_call 90; refine (l2start_any b off n c B _ Q (fun i hi => (HOPS.out i hi).later (Below.refl _ wr).drew) hn k s (by omega) hsk D1.out D2.out).mono ?_; rintro e W ⟨rfl, hw⟩; subst W) | (go_at_call 98; refine (l3null_any Q ra la nr rc nb lc b off n B mb mo mc mk hn h1 h2 HOK.out.1 k s _ _ _ y _ (by omega) (M.Fed.less HOK.out.2.1 (by omega)) ST.out rfl (by omega) (by omega) (fun i hi => (HOPS.out i hi).later (Below.refl _ wr).drew) (HM.out.later HBW.out.drew)).mono ?_; rintro e W2 ⟨rfl, hb2⟩; have B2 : Hid (Below wr.heap.size wr W2) := (Below.refl _ wr).drew.trans hb2; clear hb2))
        all_goals (cases y
                   · go_wp2
                     go_roundw
                     case rel => exact ⟨k + 1, by omega, .inl (by omega), by go_num, fun i hi q => if e : i = k then (by subst e; have h9 := q.2; rw [HTOP.out] at h9; cases h9) else HNO.out i (by omega) q, bel_tr HBE.out B2.out⟩
                     case measure => simp [intOf]; omega
                   · go_wp2
                     go_ret
                     exact ⟨⟨_, rfl, fun _ => ⟨k, hlt, H6.out, HTOP.out⟩, fun _ => rfl⟩, bel_tr HBW.out B2.out⟩)
      · have f6 : ((B k).kind == 6) = false := by simp [h6]
        have H6 : Hid (¬ (B k).kind = 6) := h6
        clear h6
        go_wp2
        go_region
        go_wp2
        go_roundw
        case rel => exact ⟨k + 1, by omega, .inl (by omega), by go_num, fun i hi q => if e : i = k then H6.out (e ▸ q.1) else HNO.out i (by omega) q, HBE.out.drew⟩
        case measure => simp [intOf]; omega
    · go_wp2
      go_ret
      refine ⟨⟨_, rfl, ?_⟩, HBW.out⟩
      simp
      exact fun i hi q => HNO.out i (by omega) q

end Go.Proofs.Ytjpcojabdjldbaa

/-
  A table of ways in memory: a row of slices of bools.
-/
namespace Go.Proofs.Ytjpcojabdjldbaa
open Go.RowKit
open M (OpD NodeD Gr)
set_option linter.unusedVariables false
set_option linter.unusedSimpArgs false

/-- n rows of n bools; B bounds their blocks from below. -/
structure Tab (w : World) (B sb : Nat) (rb : Nat → Nat) (m n : Nat) (T : Nat → Nat → Bool) : Prop where
  head : ∀ i, i < m → w.cell? ⟨sb, i, none⟩ = some (.slice (some ⟨rb i, 0, none⟩) n n)
  row : ∀ i, i < m → w.rowIs (rb i) 4 n (fun j => .bool (T i j))
  inj : ∀ i j, i < m → j < m → rb i = rb j → i = j
  off : ∀ i, i < m → sb < rb i
  lo : B ≤ sb
def upT (T : Nat → Nat → Bool) (i j : Nat) : Nat → Nat → Bool := fun a b => if a = i ∧ b = j then true else T a b

theorem Tab.later {w w' : World} {B sb : Nat} {rb : Nat → Nat} {m n : Nat} {T : Nat → Nat → Bool} (h : Tab w B sb rb m n T) (k : Below w.heap.size w w') : Tab w' B sb rb m n T :=
  ⟨fun i hi => cell_on (h.head i hi) k, fun i hi => (h.row i hi).of_block (k.block _ (rowIs_lt (h.row i hi))), h.inj, h.off, h.lo⟩
theorem Tab.congr {w : World} {B sb : Nat} {rb : Nat → Nat} {m n : Nat} {T T' : Nat → Nat → Bool} (h : Tab w B sb rb m n T) (e : ∀ i j, i < m → j < n → T i j = T' i j) : Tab w B sb rb m n T' :=
  ⟨h.head, fun i hi => (h.row i hi).congr (fun j hj => by simp only [e i j hi hj]), h.inj, h.off, h.lo⟩
theorem Tab.set {w : World} {B sb : Nat} {rb : Nat → Nat} {m n : Nat} {T : Nat → Nat → Bool} (h : Tab w B sb rb m n T) {i : Nat} (hi : i < m) (j : Nat) : Tab (w.setCell ⟨rb i, j, none⟩ (.bool true)) B sb rb m n (upT T i j) := by
  refine ⟨fun a ha => ?_, fun a ha => ?_, h.inj, h.off, h.lo⟩
  · have := h.off i hi
    rw [cell_set_far (show rb i ≠ sb by omega)]
    exact h.head a ha
  · by_cases e : a = i
    · subst e
      refine ((h.row a ha).set j (.bool true)).congr (fun b hb => ?_)
      unfold upT
      by_cases e2 : b = j
      · simp [e2]
      · simp [e2]
    · have hne : rb a ≠ rb i := fun q => e (h.inj a i ha hi q)
      refine ((h.row a ha).setOther (a := ⟨rb i, j, none⟩) hne (.bool true)).congr (fun b hb => ?_)
      unfold upT
      simp [e]
theorem Tab.cell {w : World} {B sb : Nat} {rb : Nat → Nat} {m n : Nat} {T : Nat → Nat → Bool} (h : Tab w B sb rb m n T) {i j : Nat} (hi : i < m) (hj : j < n) : w.cell? ⟨rb i, j, none⟩ = some (.bool (T i j)) := (h.row i hi).cell hj
theorem Tab.soft {w : World} {B sb : Nat} {rb : Nat → Nat} {m n : Nat} {T : Nat → Nat → Bool} (h : Tab w B sb rb m n T) {i : Nat} (hi : i < m) (j : Nat) : w.frozen? ⟨rb i, j, none⟩ = false := (h.row i hi).frozen j

/-- Behind j columns of the row i, for the node k. -/
def Col (T T' : Nat → Nat → Bool) (i k j : Nat) : Prop := ∀ a b, T' a b = if a = i ∧ b < j then T a b || (T i k && T k b) else T a b
theorem Col.zero (T : Nat → Nat → Bool) (i k : Nat) : Col T T i k 0 := fun a b => by simp
theorem Col.ik {T T' : Nat → Nat → Bool} {i k j : Nat} (h : Col T T' i k j) : T' i k = T i k := by
  rw [h i k]
  split
  · cases T i k <;> simp
  · rfl
theorem Col.kj {T T' : Nat → Nat → Bool} {i k j : Nat} (h : Col T T' i k j) : T' k j = T k j := by
  rw [h k j, if_neg (fun q => Nat.lt_irrefl _ q.2)]
theorem Col.skip {T T' : Nat → Nat → Bool} {i k j : Nat} (h : Col T T' i k j) (e : T k j = false) : Col T T' i k (j + 1) := fun a b => by
  rw [h a b]
  by_cases h1 : a = i ∧ b < j
  · rw [if_pos h1, if_pos ⟨h1.1, by omega⟩]
  · rw [if_neg h1]
    by_cases h2 : a = i ∧ b < j + 1
    · rw [if_pos h2]
      obtain rfl : b = j := by omega
      rw [e]; simp
    · rw [if_neg h2]
theorem Col.put {T T' : Nat → Nat → Bool} {i k j : Nat} (h : Col T T' i k j) (e : T k j = true) (e2 : T i k = true) : Col T (upT T' i j) i k (j + 1) := fun a b => by
  unfold upT
  by_cases h0 : a = i ∧ b = j
  · rw [if_pos h0, if_pos ⟨h0.1, by omega⟩, h0.2, e, e2]
    simp
  · rw [if_neg h0, h a b]
    by_cases h1 : a = i ∧ b < j
    · rw [if_pos h1, if_pos ⟨h1.1, by omega⟩]
    · rw [if_neg h1, if_neg (by omega)]
/-- Behind i rows, for the node k. -/
def Rws (T T' : Nat → Nat → Bool) (n k i : Nat) : Prop := ∀ a b, b < n → T' a b = if a < i then T a b || (T a k && T k b) else T a b
theorem Rws.zero (T : Nat → Nat → Bool) (n k : Nat) : Rws T T n k 0 := fun a b _ => by simp
theorem Rws.kb {T T' : Nat → Nat → Bool} {n k i : Nat} (h : Rws T T' n k i) {b : Nat} (hb : b < n) : T' k b = T k b := by
  rw [h k b hb]
  split
  · cases T k b <;> simp
  · rfl
theorem Rws.step {T T1 T2 : Nat → Nat → Bool} {n k i j : Nat} (hk : k < n) (h : Rws T T1 n k i) (c : Col T1 T2 i k j) (hj : j = n ∨ T1 i k = false) : Rws T T2 n k (i + 1) := fun a b hb => by
  have e1 : T1 i k = T i k := by rw [h i k hk, if_neg (by omega)]
  rw [c a b]
  by_cases ha : a = i
  · subst ha
    rw [if_pos (show a < a + 1 by omega)]
    have e2 : T1 a b = T a b := by rw [h a b hb, if_neg (by omega)]
    split
    · rw [e2, e1, h.kb hb]
    · rename_i hn
      rw [e2]
      rcases hj with rfl | hj
      · exact absurd ⟨rfl, hb⟩ hn
      · rw [← e1, hj]; simp
  · rw [if_neg (fun q => ha q.1), h a b hb]
    by_cases h1 : a < i
    · rw [if_pos h1, if_pos (by omega)]
    · rw [if_neg h1, if_neg (by omega)]
theorem Rws.done {R T T' : Nat → Nat → Bool} {n k : Nat} (h : M.Warsh R n k T) (hk : k < n) (r : Rws T T' n k n) : M.Warsh R n (k + 1) T' :=
  h.step hk (fun i j hi hj => by rw [r i j hj, if_pos hi])

end Go.Proofs.Ytjpcojabdjldbaa

/-
  Walks: parts of the specification's Check.
-/
namespace Go.Proofs.Ytjpcojabdjldbaa
open Go.RowKit
open M (OpD NodeD Gr)
set_option linter.unusedVariables false
set_option linter.unusedSimpArgs false

theorem info44 : (Try.prog.info? 44).map (fun i => (i.zero, i.size, i.bytes)) = some (some (.slice none 0 0), 1, 24) := by kernel_rfl

set_option maxRecDepth 100000 in
set_option maxHeartbeats 4000000 in
theorem l3begins_body (Q : Nat → Prop) (V : World) (ra la a : Option Addr) (nr rc nb lc n c N : Nat) (B : Nat → OpD) (mb mo mc ob oc : Nat) (S : NS) (out : Nat → Bool) (w : World) (hN : nr + nb = N) (h1 : nr ≤ 100) (h2 : nb ≤ 100) (hn : n ≤ 1048576) (hc : n ≤ c) (hB : OpsA Q V a n B) (hok : n = 0 ∨ M.BodyOK nr nb n B) (hM : BoolsA V mb mo N S.has) (hob : V.heap.size ≤ ob) (hV : Below V.heap.size V w) (hR : w.rowIs ob 4 N (fun j => .bool (out j))) :
    Calls Try.prog 65 #[.agg #[.slice ra nr rc, .slice la nb lc], .slice a n c, .slice (some ⟨mb, mo, none⟩) N mc, .slice (some ⟨ob, 0, none⟩) N oc] w (BegIs N ob (fun j => out j || (M.top (M.stk (valO nr S) B n)).beg.has j) w) := by
  subst hN
  by_cases h0 : n = 0
  · subst h0
    have HR : Hid (w.rowIs ob 4 (nr + nb) (fun j => .bool (out j))) := hR
    clear hR hM hok hB hV
    go_enter Try.func65, Try.ntmps65
    go_wp2
    go_end0
    exact ⟨⟨_, rfl⟩, row_or (keep_row HR.out (bel1 w _)) (fun j hj => by rw [show (M.top (M.stk (valO nr S) B 0)).beg = nz from rfl, nz_has, Bool.or_false]), keep_bel (bel1 w _)⟩
  · rcases hok with q | hok
    · exact absurd q h0
    rcases hB with q | ⟨b, off, rfl, hq, hB⟩
    · exact absurd q h0
    exact l3begins_any Q V ra la nr rc nb lc b off n B mb mo mc ob oc S hn h1 h2 hok.1 hB hM hob n 0 off c n _ out w (Nat.le_refl _) hok.2.1 (stk_whole _ B n hok.2) (by omega) (by omega) hc hV hR

/-- The body of a node, in a base world. -/
def BodyAt (Q : Nat → Prop) (V : World) (d : NodeD) (w : World) (e : Ending) (w' : World) : Prop := (∃ a c, e = .returned (.slice a d.bl c) ∧ OpsA Q V a d.bl d.body ∧ d.bl ≤ c) ∧ Below w.heap.size w w'

set_option maxHeartbeats 2000000 in
theorem l3body_base (Q : Nat → Prop) (V : World) (ra la : Option Addr) (rc lc : Nat) (g : Gr) (w : World) (hG : GramX Q V ra la g) (hV : Below V.heap.size V w) (h1 : g.nr ≤ 100) (h2 : g.nb ≤ 100) (p : Nat) (hp : p < g.nr + g.nb) :
    Calls Try.prog 66 #[.agg #[.slice ra g.nr rc, .slice la g.nb lc], .int .i64 (p : Int)] w (BodyAt Q V (nd g p) w) := by
  by_cases e : p < g.nr
  · rw [nd_rule g e]
    rcases hG.rules with h0 | ⟨b, off, rfl, hq, hR⟩
    · omega
    obtain ⟨⟨_, ⟨a0, c0', k0, hb0⟩⟩, ⟨ba, bc, c1, hcap⟩⟩ := hR p e
    have hae : a0 = ba ∧ c0' = bc := by rw [c1] at k0; simp at k0; exact ⟨k0.1.symm, k0.2.symm⟩
    obtain ⟨rfl, rfl⟩ := hae
    have HB : Hid (OpsA Q V a0 (g.rule p).bl (g.rule p).body) := hb0
    replace c1 := cell_on c1 hV
    have hbl : b < w.heap.size := lt_of_cell c1
    have HC : Hid ((g.rule p).bl ≤ c0') := hcap
    clear hb0 hcap k0 hR hG hV
    go_enter Try.func66, Try.ntmps66
    go_wp2
    go_ret
    exact ⟨⟨a0, c0', rfl, HB.out, HC.out⟩, bel1 w _⟩
  · obtain ⟨i, rfl⟩ : ∃ i, p = g.nr + i := ⟨p - g.nr, by omega⟩
    rw [nd_lab]
    rcases hG.labs with h0 | ⟨b, off, rfl, hq, hR⟩
    · omega
    obtain ⟨⟨_, _, ⟨a0, c0', k0, hb0⟩⟩, ⟨ba, bc, c1, hcap⟩⟩ := hR i (by omega)
    have hae : a0 = ba ∧ c0' = bc := by rw [c1] at k0; simp at k0; exact ⟨k0.1.symm, k0.2.symm⟩
    obtain ⟨rfl, rfl⟩ := hae
    have HB : Hid (OpsA Q V a0 (g.lab i).bl (g.lab i).body) := hb0
    replace c1 := cell_on c1 hV
    have hbl : b < w.heap.size := lt_of_cell c1
    have HC : Hid ((g.lab i).bl ≤ c0') := hcap
    have hi : i < g.nb := by omega
    have x1 : ¬ ((g.nr + i : Nat) : Int) < (g.nr : Int) := by omega
    have x2 : ((g.nr + i : Nat) : Int) - (g.nr : Int) = (i : Int) := by omega
    clear hb0 hcap k0 hR hG hV
    go_enter Try.func66, Try.ntmps66
    go_wp2
    go_ret
    exact ⟨⟨a0, c0', rfl, HB.out, HC.out⟩, bel1 w _⟩

theorem OB_iff {g : Gr} {p : Nat} (hp : NodeOK g p) : OB g p ↔ ∃ i, i < (nd g p).bl ∧ StarAt g.nr (S0 g).has (nd g p).body i := by
  unfold OB opnOf
  rcases hp with h0 | hok
  · rw [h0]
    constructor
    · intro h; cases h
    · rintro ⟨i, hi, _⟩; omega
  · have := M.stk_loop (valO g.nr (S0 g)) (nd g p).body Opn.loop Opn.nul (valO_loop g.nr (S0 g)) (nd g p).bl 0 _ hok.2.1 (stk_whole _ _ _ hok.2)
    rw [this]
    unfold M.Loop StarAt
    constructor
    · rintro ⟨i, _, h2, h3, h4⟩
      rw [top_nul] at h4
      exact ⟨i, h2, h3, h4⟩
    · rintro ⟨i, h2, h3, h4⟩
      refine ⟨i, Nat.zero_le _, h2, h3, ?_⟩
      rw [top_nul]
      exact h4

theorem l3loops_n (Q : Nat → Prop) (ra la a : Option Addr) (nr rc nb lc n c N : Nat) (B : Nat → OpD) (mb mo mc : Nat) (mk : Nat → Bool) (w : World) (hN : nr + nb = N) (h1 : nr ≤ 100) (h2 : nb ≤ 100) (hn : n ≤ 1048576) (hc : n ≤ c) (hB : OpsA Q w a n B) (hok : n = 0 ∨ M.BodyOK nr nb n B) (hM : BoolsA w mb mo N mk) :
    Calls Try.prog 67 #[.agg #[.slice ra nr rc, .slice la nb lc], .slice a n c, .slice (some ⟨mb, mo, none⟩) N mc] w (SaysB (∃ i, i < n ∧ StarAt nr mk B i) w) := by
  subst hN
  exact l3loops_any Q ra la a nr rc nb lc n c B mb mo mc mk w h1 h2 hn hc hB hok hM

/-- The heads of the first k rows. -/
def heads (rb : Nat → Nat) (n k : Nat) (i : Nat) : Value := if i < k then .slice (some ⟨rb i, 0, none⟩) n n else .slice none 0 0
theorem heads_step {w : World} {sb n k nb : Nat} {rb : Nat → Nat} (h : w.rowIs sb 44 n (heads rb n k)) : (w.setCell ⟨sb, k, none⟩ (.slice (some ⟨nb, 0, none⟩) n n)).rowIs sb 44 n (heads (fun i => if i = k then nb else rb i) n (k + 1)) := by
  refine (h.set k _).congr fun i _ => ?_
  unfold heads
  by_cases e : i = k
  · subst e; simp
  · rw [if_neg e]
    by_cases e2 : i < k
    · rw [if_pos e2, if_pos (by omega)]; simp [e]
    · rw [if_neg e2, if_neg (by omega)]
/-- The rows that are filled: k of them. -/
structure Rows1 (w : World) (sb : Nat) (rb : Nat → Nat) (k n : Nat) (R : Nat → Nat → Bool) : Prop where
  head : w.rowIs sb 44 n (heads rb n k)
  row : ∀ i, i < k → w.rowIs (rb i) 4 n (fun j => .bool (R i j))
  inj : ∀ i j, i < k → j < k → rb i = rb j → i = j
  off : ∀ i, i < k → sb < rb i
theorem Rows1.tab {w : World} {sb : Nat} {rb : Nat → Nat} {n : Nat} {R : Nat → Nat → Bool} (h : Rows1 w sb rb n n R) : Tab w sb sb rb n n R :=
  ⟨fun i hi => by rw [h.head.cell hi]; simp [heads, hi], h.row, h.inj, h.off, Nat.le_refl _⟩
def stI (W4 : World) (sb n : Nat) (R : Nat → Nat → Bool) (iv : Value) (wr : World) : Prop :=
  ∃ (k : Nat) (rb : Nat → Nat), k ≤ n ∧ iv = .int .i64 (k : Int) ∧ Rows1 wr sb rb k n R ∧ Below sb W4 wr

end Go.Proofs.Ytjpcojabdjldbaa
