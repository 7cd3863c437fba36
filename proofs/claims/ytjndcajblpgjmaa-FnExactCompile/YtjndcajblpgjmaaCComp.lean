/-
  Walks: the program's Compile.
-/
import Derived.Test.YtjndcajblpgjmaaCExp
import Derived.Test.YtjndcajblpgjmaaCLink
import Derived.Test.YtjndcajblpgjmaaSEmit
import Derived.Test.YtjndcajblpgjmaaValid
namespace Go.Proofs.Ytjndcajblpgjmaa
open Go.RowKit
open M (OpD NodeD Gr InsD EX ins emit wsum lk)
set_option linter.unusedVariables false
set_option linter.unusedSimpArgs false

/-! ### Plain -/
def NodeTo (m : Nat) (d : InsD) : Prop := d.kind = 6 ∨ d.kind = 8 → ∃ n : Nat, n < m ∧ d.to = (n : Int)
theorem emit_to (m : Nat) (t : EX) (ht : t.Below m) : ∀ p d, d ∈ emit (fun n => (n : Int)) t p → NodeTo m d := by
  have hin : ∀ k a z : Int, k ≠ 6 → k ≠ 8 → NodeTo m (ins k a z) := fun k a z h6 h8 q => by
    rcases q with q | q
    · exact absurd q h6
    · exact absurd q h8
  induction t with
  | empty => intro p d hd; simp [emit] at hd
  | set n S => intro p d hd; simp [emit] at hd; subst hd; intro q; rcases q with q | q <;> simp at q
  | ref n => intro p d hd; simp [emit] at hd; subst hd; exact fun _ => ⟨n, ht, rfl⟩
  | thr l n => intro p d hd; simp [emit] at hd; subst hd; exact fun _ => ⟨n, ht, rfl⟩
  | seq x y ihx ihy =>
    intro p d hd
    rw [emit] at hd
    rcases List.mem_append.1 hd with q | q
    · exact ihx ht.1 _ d q
    · exact ihy ht.2 _ d q
  | alt x y ihx ihy =>
    intro p d hd
    rw [emit] at hd
    rcases List.mem_cons.1 hd with rfl | q
    · exact hin _ _ _ (by decide) (by decide)
    · rcases List.mem_append.1 q with q | q
      · exact ihx ht.1 _ d q
      · rcases List.mem_cons.1 q with rfl | q
        · exact hin _ _ _ (by decide) (by decide)
        · exact ihy ht.2 _ d q
  | star x ih =>
    intro p d hd
    rw [emit] at hd
    rcases List.mem_cons.1 hd with rfl | q
    · exact hin _ _ _ (by decide) (by decide)
    · rcases List.mem_append.1 q with q | q
      · exact ih ht _ d q
      · simp at q; subst q; exact hin _ _ _ (by decide) (by decide)
  | not x ih =>
    intro p d hd
    rw [emit] at hd
    rcases List.mem_cons.1 hd with rfl | q
    · exact hin _ _ _ (by decide) (by decide)
    · rcases List.mem_append.1 q with q | q
      · exact ih ht _ d q
      · simp at q; subst q; exact hin _ _ _ (by decide) (by decide)

def progI (g : Gr) (k : Nat) : List InsD := M.progC (fun n => (n : Int)) (opG g) (trG g) (hasB g) k
theorem progI_len (g : Gr) (k : Nat) : (progI g k).length = PL g k := M.progC_len _ _ _ _ _ _
theorem progI_succ (g : Gr) (k : Nat) (h : 0 < (nd g k).bl) : progI g (k + 1) = progI g k ++ M.nodeC (fun n => (n : Int)) (opG g k) (trG g k) (PL g k) := by
  have e : hasB g k = true := by simp [hasB, h]
  unfold progI
  rw [M.progC, if_pos e, show (M.progC (fun n => (n : Int)) (opG g) (trG g) (hasB g) k).length = PL g k from progI_len g k]
theorem progI_skip (g : Gr) (k : Nat) (h : ¬ 0 < (nd g k).bl) : progI g (k + 1) = progI g k := by
  have e : ¬ hasB g k = true := by simp [hasB, h]
  unfold progI
  rw [M.progC, if_neg e]
theorem opG_kind (g : Gr) (p : Nat) : (opG g p).kind = 9 ∨ (opG g p).kind = 10 := by
  unfold opG
  split
  · exact .inl rfl
  · exact .inr rfl
theorem progI_to {g : Gr} (hV : M.Valid g) (k : Nat) (hk : k ≤ g.nr + g.nb) : ∀ d, d ∈ progI g k → NodeTo (g.nr + g.nb) d := by
  have hin : ∀ k a z : Int, k ≠ 6 → k ≠ 8 → NodeTo (g.nr + g.nb) (ins k a z) := fun k a z h6 h8 q => by
    rcases q with q | q
    · exact absurd q h6
    · exact absurd q h8
  induction k with
  | zero =>
    intro d hd
    have hd' : d = ins 6 0 ((0 : Nat) : Int) ∨ d = ins 12 0 0 := by simpa [progI, M.progC] using hd
    rcases hd' with rfl | rfl
    · exact fun _ => ⟨0, by have := hV.r1; omega, rfl⟩
    · exact hin _ _ _ (by decide) (by decide)
  | succ k ih =>
    intro d hd
    by_cases h : 0 < (nd g k).bl
    · rw [progI_succ g k h] at hd
      rcases List.mem_append.1 hd with q | q
      · exact ih (by omega) d q
      · unfold M.nodeC at q
        rcases List.mem_cons.1 q with rfl | q
        · intro r
          rcases opG_kind g k with e | e <;> rw [e] at r <;> rcases r with r | r <;> cases r
        · rcases List.mem_append.1 q with q | q
          · have hb : M.BodyOK g.nr g.nb (nd g k).bl (nd g k).body := (valid_node hV (show k < g.nr + g.nb by omega)).elim (fun q => by omega) id
            exact emit_to _ _ (M.tree_below hb.1) _ d q
          · simp at q
            rcases q with rfl | rfl <;> exact hin _ _ _ (by decide) (by decide)
    · rw [progI_skip g k h] at hd
      exact ih (by omega) d hd
def firsts (g : Gr) (k : Nat) : List Int := (List.range k).map (plc g)
theorem firsts_succ (g : Gr) (k : Nat) : firsts g (k + 1) = firsts g k ++ [plc g k] := by
  unfold firsts
  rw [List.range_succ, List.map_append]
  rfl
theorem firsts_len (g : Gr) (k : Nat) : (firsts g k).length = k := by simp [firsts]
theorem firsts_get (g : Gr) {k n : Nat} (h : n < k) : (firsts g k)[n]? = some (plc g n) := by simp [firsts, h]
/-- The link, as a function. -/
def fG (g : Gr) (z : Int) : Int := plc g z.toNat
theorem link_prog (g : Gr) (k : Nat) : (progI g k).map (lk (fG g)) = progG g k := by
  unfold progI progG
  rw [M.progC_link _ _ _ _ _ (opG_kind g)]
  rfl

/-! ### The answer, in memory of its own -/
structure IOwnP (w w' : World) (v : Value) (L : List IC) (P S : Nat → Prop) : Prop where
  own : OwnC P w' v 4 L.length (cellsI L)
  sets : SetsA S w' L
  softS : ∀ b j, S b → w'.frozen? ⟨b, j, none⟩ = false
  p : ∀ b, P b → New w w' b ∧ ¬ S b
  s : ∀ b, S b → New w w' b
  nodup : (blks L).Nodup
def CompIs (g : Gr) (w : World) (e : Ending) (w' : World) : Prop :=
  ((M.Valid g ∧ ∃ a n c L P S, e = .returned (.tuple #[.slice a n c, .int .i64 0]) ∧ n = L.length ∧ L.map IC.d = progG g (g.nr + g.nb) ∧ IOwnP w w' (.slice a n c) L P S) ∨
    (¬ M.Valid g ∧ e = .returned (.tuple #[.slice none 0 0, .int .i64 4]))) ∧ Below w.heap.size w w'

def crI (w0 : World) (cb : Nat) (u0 u1 : Value) (g : Gr) (n base : Nat) (iv : Value) (wr : World) : Prop :=
  ∃ (k : Nat) (L : List IC), k ≤ n ∧ iv = .int .i64 (k : Int) ∧ L.map IC.d = progI g (base + k) ∧ CS w0 cb u0 u1 L [] (firsts g (base + k)) wr

theorem cs_start (w : World) (u0 u1 : Value) (t : TypeId) : CS w w.heap.size u0 u1 [] [] [] (w.alloc (.cells #[u0, u1, .slice none 0 0, .slice none 0 0] t)) := by
  refine ⟨fun _ => False, fun _ => False, fun _ => False, .slice none 0 0, .slice none 0 0, cN w.heap.size rfl rfl, cN w.heap.size rfl rfl, cN w.heap.size rfl rfl, cN w.heap.size rfl rfl, fun j => ?_, .inl ⟨rfl, rfl, rfl⟩, .inl ⟨rfl, rfl, rfl⟩, fun x hx => by simp at hx, fun b j q => q.elim, fun b q => q.elim, fun b q => q.elim, fun b q => q.elim, ⟨Nat.le_refl _, by simp⟩, by simp [blks], bel1 w _⟩
  exact soft1 w _ t w.heap.size j (Nat.le_refl _) (by simp)

set_option maxRecDepth 100000 in
set_option maxHeartbeats 16000000 in
theorem compile_any (Q : Nat → Prop) (ra la : Option Addr) (rc lc : Nat) (g : Gr) (w : World) (hG : GramX Q w ra la g) (hs : SmallG g) :
    Calls Try.prog 36 #[.agg #[.slice ra g.nr rc, .slice la g.nb lc]] w (CompIs g w) := by
  have HG : Hid (GramX Q w ra la g) := hG
  have HS : Hid (SmallG g) := hs
  clear hG hs
  go_enter Try.func36, Try.ntmps36
  go_wp2_with fail
  refine (validGrammar_any Q ra la rc lc g _ (HG.out.later (bel1 w _)).plain HS.out).mono ?_
  rintro e W1 ⟨⟨r, rfl, hr⟩, hb⟩
  have g0 := cell_on (a := ⟨w.heap.size, 0, none⟩) (v := .slice ra g.nr rc) (cN w.heap.size rfl rfl) hb
  have g1 := cell_on (a := ⟨w.heap.size, 1, none⟩) (v := .slice la g.nb lc) (cN w.heap.size rfl rfl) hb
  have B1 : Hid (Below w.heap.size w W1) := bel_tr (bel1 w _) hb
  have hw1 : w.heap.size < W1.heap.size := lt_of_cell g0
  clear hb
  cases r with
  | false =>
    have HV : Hid (¬ M.Valid g) := fun q => absurd (hr.2 q) (by decide)
    clear hr
    go_wp2
    refine bodyPost_ret (by simp [results, Try.f36, go_sem]; rfl) rfl ?_
    exact ⟨.inr ⟨HV.out, rfl⟩, B1.out⟩
  | true =>
    have HV : Hid (M.Valid g) := hr.1 rfl
    clear hr
    have h1 := HV.out.r2
    have h2 := HV.out.l2
    have HG1 : Hid (GramX Q W1 ra la g) := HG.out.later B1.out
    have G0 : Hid (W1.cell? ⟨w.heap.size, 0, none⟩ = some (.slice ra g.nr rc)) := g0
    have G1 : Hid (W1.cell? ⟨w.heap.size, 1, none⟩ = some (.slice la g.nb lc)) := g1
    have C0 : Hid (CS W1 W1.heap.size (.slice ra g.nr rc) (.slice la g.nb lc) [] [] [] (W1.alloc (.cells #[.slice ra g.nr rc, .slice la g.nb lc, .slice none 0 0, .slice none 0 0] 115))) := cs_start W1 _ _ 115
    go_wp2_with fail
    refine (put_any W1 W1.heap.size _ _ [] [] _ 6 0 0 C0.out (by simp)).mono ?_
    rintro e W2 ⟨rfl, C2⟩
    go_wp2_with fail
    refine (put_any W1 W1.heap.size _ _ ([] ++ [ic 6 0 0]) [] _ 12 0 0 C2.out (by simp)).mono ?_
    rintro e W3 ⟨rfl, C3⟩
    replace g0 := cell_on G0.out C3.out.bel
    replace g1 := cell_on G1.out C3.out.bel
    have lw3 := lt_of_cell g0
    have hps := PL_small HV.out
    have HPS : Hid (∀ k, k ≤ g.nr + g.nb → PL g k ≤ 5000) := hps
    clear hps C2 C0
    go_wp2
    go_loopw [21] (fun iv wr => crI W1 W1.heap.size (.slice ra g.nr rc) (.slice la g.nb lc) g g.nr 0 iv wr) (fun iv _ => g.nr - (intOf iv).toNat)
    case atStart => exact ⟨0, [ic 6 0 0, ic 12 0 0], Nat.zero_le _, rfl, rfl, C3.out⟩
    case round =>
      clear g0 g1 lw3
      obtain ⟨k, L, hk, rfl, hL, hC⟩ := hrel
      rw [Nat.zero_add] at hL hC
      have HL : Hid (L.map IC.d = progI g k) := hL
      have HC : Hid (CS W1 W1.heap.size (.slice ra g.nr rc) (.slice la g.nb lc) L [] (firsts g k) wr) := hC
      have HLL : Hid (L.length = PL g k) := by show _ = _; rw [← progI_len, ← hL, List.length_map]
      have hpk := HPS.out k (by omega)
      have y0 := cell_on G0.out hC.bel
      have y1 := cell_on G1.out hC.bel
      have lwr := lt_of_cell y0
      clear hL hC
      by_cases hlt : k < g.nr
      · rcases HG1.out.rules with q | ⟨b, off, rfl, hq, hR⟩
        · omega
        obtain ⟨⟨⟨na, nc, c0, hn⟩, ⟨ba, bc, c1, hb⟩⟩, ⟨ba2, bc2, c1', hcap⟩⟩ := hR k hlt
        obtain ⟨rfl, rfl⟩ : ba = ba2 ∧ bc = bc2 := by rw [c1'] at c1; simp at c1; exact ⟨c1.1.symm, c1.2.symm⟩
        have HB : Hid (OpsA Q W1 ba (g.rule k).bl (g.rule k).body) := hb
        have HCP : Hid ((g.rule k).bl ≤ bc) := hcap
        replace c0 := cell_on c0 HC.out.bel
        replace c1 := cell_on c1 HC.out.bel
        have lb := lt_of_cell c0
        have HOK : Hid (M.BodyOK g.nr g.nb (g.rule k).bl (g.rule k).body) := HV.out.rb k hlt
        have hbl : 0 < (nd g k).bl := by
          rw [nd_rule g hlt]
          by_cases q : (g.rule k).bl = 0
          · have := HOK.out.2.2
            rw [q, M.dep] at this
            omega
          · omega
        have HSU := progI_succ g k hbl
        have HPP : Hid (plc g k = (PL g k : Int)) := by show _ = _; rw [plc_eq, if_pos hbl]
        have hnb := nd_bd HV.out (show k < g.nr + g.nb by omega)
        rw [nd_rule g hlt] at hnb
        have HNB : Hid ((g.rule k).bl ≤ 2000) := hnb
        have HNC : Hid (progI g (k + 1) = progI g k ++ M.nodeC (fun n => (n : Int)) (ins 9 (k : Int) 0) (M.treeE g.nr (g.rule k).bl (g.rule k).body) L.length) := by
          show _ = _
          rw [HSU, HLL.out]
          unfold opG trG
          rw [if_pos hlt, nd_rule g hlt]
        have hk' : (k : Int) < (g.nr : Int) := by omega
        clear hR hn hb hcap c1' hbl HSU hnb hq
        go_wp2_with fail
        refine (putNode_any W1 W1.heap.size Q (some ⟨b, off, none⟩) la ba rc lc (g.rule k).bl bc g h1 h2 (g.rule k).body HNB.out HCP.out HOK.out HB.out L (firsts g k) 9 (k : Int) _ (HC.out.later (bel1 wr _)) (by have := HLL.out; omega) (by rw [firsts_len]; omega)).mono ?_
        rintro e W5 ⟨⟨v5, rfl⟩, K, hm, hc⟩
        have HM : Hid (K.map IC.d = M.nodeC (fun n => (n : Int)) (ins 9 (k : Int) 0) (M.treeE g.nr (g.rule k).bl (g.rule k).body) L.length) := hm
        have C5 : Hid (CS W1 W1.heap.size (.slice (some ⟨b, off, none⟩) g.nr rc) (.slice la g.nb lc) (L ++ K) [] (firsts g k ++ [(L.length : Int)]) W5) := hc
        clear hm hc
        go_wp2
        go_roundw
        case rel =>
          refine ⟨k + 1, L ++ K, by omega, by go_num, ?_, ?_⟩
          · rw [Nat.zero_add, HNC.out, List.map_append, HL.out, HM.out]
          · rw [Nat.zero_add, firsts_succ, HPP.out, ← HLL.out]; exact C5.out
        case measure => simp [intOf]; omega
      · obtain rfl : k = g.nr := by omega
        go_wp2
        go_loopw [35] (fun iv wr => crI W1 W1.heap.size (.slice ra g.nr rc) (.slice la g.nb lc) g g.nb g.nr iv wr) (fun iv _ => g.nb - (intOf iv).toNat)
        case atStart => exact ⟨0, L, Nat.zero_le _, rfl, by rw [Nat.add_zero]; exact HL.out, by rw [Nat.add_zero]; exact HC.out⟩
        case round =>
          clear y0 y1 lwr hpk hk hlt HL HC HLL
          obtain ⟨k, L, hk, rfl, hL, hC⟩ := hrel
          have HL : Hid (L.map IC.d = progI g (g.nr + k)) := hL
          have HC : Hid (CS W1 W1.heap.size (.slice ra g.nr rc) (.slice la g.nb lc) L [] (firsts g (g.nr + k)) wr) := hC
          have HLL : Hid (L.length = PL g (g.nr + k)) := by show _ = _; rw [← progI_len, ← hL, List.length_map]
          have hpk := HPS.out (g.nr + k) (by omega)
          have y0 := cell_on G0.out hC.bel
          have y1 := cell_on G1.out hC.bel
          have lwr := lt_of_cell y0
          clear hL hC
          by_cases hlt : k < g.nb
          · rcases HG1.out.labs with q | ⟨b, off, rfl, hq, hR⟩
            · omega
            obtain ⟨⟨⟨na, nc, c0, hn⟩, ch, ⟨ba, bc, c1, hb⟩⟩, ⟨ba2, bc2, c1', hcap⟩⟩ := hR k hlt
            obtain ⟨rfl, rfl⟩ : ba = ba2 ∧ bc = bc2 := by rw [c1'] at c1; simp at c1; exact ⟨c1.1.symm, c1.2.symm⟩
            have HB : Hid (OpsA Q W1 ba (g.lab k).bl (g.lab k).body) := hb
            have HCP : Hid ((g.lab k).bl ≤ bc) := hcap
            replace c0 := cell_on c0 HC.out.bel
            replace c1 := cell_on c1 HC.out.bel
            replace ch := cell_on ch HC.out.bel
            have lb := lt_of_cell c0
            have hk' : (k : Int) < (g.nb : Int) := by omega
            cases hh : (g.lab k).has with
            | true =>
              rw [hh] at ch
              have HOK : Hid (M.BodyOK g.nr g.nb (g.lab k).bl (g.lab k).body) := HV.out.lb k hlt hh
              have hbl : 0 < (nd g (g.nr + k)).bl := by
                rw [nd_lab]
                by_cases q : (g.lab k).bl = 0
                · have := HOK.out.2.2
                  rw [q, M.dep] at this
                  omega
                · omega
              have HSU := progI_succ g (g.nr + k) hbl
              have HPP : Hid (plc g (g.nr + k) = (PL g (g.nr + k) : Int)) := by show _ = _; rw [plc_eq, if_pos hbl]
              have hnb := nd_bd HV.out (show g.nr + k < g.nr + g.nb by omega)
              rw [nd_lab] at hnb
              have HNB : Hid ((g.lab k).bl ≤ 2000) := hnb
              have HNC : Hid (progI g (g.nr + (k + 1)) = progI g (g.nr + k) ++ M.nodeC (fun n => (n : Int)) (ins 10 (k : Int) 0) (M.treeE g.nr (g.lab k).bl (g.lab k).body) L.length) := by
                show progI g (g.nr + k + 1) = _
                rw [HSU, HLL.out]
                unfold opG trG
                rw [if_neg (by omega), nd_lab, show g.nr + k - g.nr = k by omega]
              clear hR hn hb hcap c1' hbl HSU hnb hq hh
              go_wp2_with fail
              refine (putNode_any W1 W1.heap.size Q ra (some ⟨b, off, none⟩) ba rc lc (g.lab k).bl bc g h1 h2 (g.lab k).body HNB.out HCP.out HOK.out HB.out L (firsts g (g.nr + k)) 10 (k : Int) _ (HC.out.later (bel1 wr _)) (by have := HLL.out; omega) (by rw [firsts_len]; omega)).mono ?_
              rintro e W5 ⟨⟨v5, rfl⟩, K, hm, hc⟩
              have HM : Hid (K.map IC.d = M.nodeC (fun n => (n : Int)) (ins 10 (k : Int) 0) (M.treeE g.nr (g.lab k).bl (g.lab k).body) L.length) := hm
              have C5 : Hid (CS W1 W1.heap.size (.slice ra g.nr rc) (.slice (some ⟨b, off, none⟩) g.nb lc) (L ++ K) [] (firsts g (g.nr + k) ++ [(L.length : Int)]) W5) := hc
              clear hm hc
              go_wp2
              go_roundw
              case rel =>
                refine ⟨k + 1, L ++ K, by omega, by go_num, ?_, ?_⟩
                · rw [HNC.out, List.map_append, HL.out, HM.out]
                · show CS _ _ _ _ _ _ (firsts g (g.nr + k + 1)) _
                  rw [firsts_succ, HPP.out, ← HLL.out]; exact C5.out
              case measure => simp [intOf]; omega
            | false =>
              rw [hh] at ch
              have hbl : ¬ 0 < (nd g (g.nr + k)).bl := by rw [nd_lab, HV.out.lz k hlt hh]; omega
              have HSK : Hid (progI g (g.nr + (k + 1)) = progI g (g.nr + k)) := progI_skip g (g.nr + k) hbl
              have HPP : Hid (plc g (g.nr + k) = -1) := by show _ = _; rw [plc_eq, if_neg hbl]
              obtain ⟨P, F, S, vp, vf, hP⟩ := HC.out.later (bel1 wr (.cells #[.slice na (g.lab k).nl nc, .bool false, .slice ba (g.lab k).bl bc] 80))
              obtain ⟨fa, fc, rfl⟩ := own_shape hP.ownf
              rw [firsts_len] at hP
              have HP : Hid (CP W1 W1.heap.size (.slice ra g.nr rc) (.slice (some ⟨b, off, none⟩) g.nb lc) L [] (firsts g (g.nr + k)) (wr.alloc (.cells #[.slice na (g.lab k).nl nc, .bool false, .slice ba (g.lab k).bl bc] 80)) P F S vp (.slice fa (g.nr + k) fc)) := hP
              have f3 := hP.f
              have lcb := hP.cb0.2
              clear hR hn hb hcap c1' hbl hq hh hP
              have XB : Hid (CP W1 W1.heap.size (.slice ra g.nr rc) (.slice (some ⟨b, off, none⟩) g.nb lc) L [] (firsts g (g.nr + k)) ((wr.alloc (.cells #[.slice na (g.lab k).nl nc, .bool false, .slice ba (g.lab k).bl bc] 80)).alloc (.cells #[.int .i64 (-1)] 3)) P F S vp (.slice fa (g.nr + k) fc)) := HP.out.later (bel1 _ _)
              have XS := src_int1 (wr.alloc (.cells #[.slice na (g.lab k).nl nc, .bool false, .slice ba (g.lab k).bl bc] 80)) (-1)
              rw [World.size_alloc] at XS
              have HXS : Hid _ := XS
              clear XS
              go_wp2_with (at_builtin; refine appC rfl _ _ 57 57 rfl rfl rfl elem57 XB.out.ownf HXS.out (by rw [firsts_len]; omega) (fun _ => Nat.one_pos) ?_; intro v' W4 hown4 hgrew4 hsz4; have hpf := XB.out.putF hown4 hgrew4; have hcb4 := hgrew4.block W1.heap.size XB.out.cb0.2 (fun q => (XB.out.rf W1.heap.size q).2.2.1 rfl); have r2 : W4.cell? ⟨W1.heap.size, 3, none⟩ = some (.slice fa (g.nr + k) fc) := (World.cell?_of_block (a := ⟨W1.heap.size, 3, none⟩) hcb4).trans XB.out.f; have r3 : W4.frozen? ⟨W1.heap.size, 3, none⟩ = false := (World.frozen?_of_block (a := ⟨W1.heap.size, 3, none⟩) hcb4).trans (XB.out.soft 3); obtain ⟨a4, c4, rfl⟩ := own_shape hown4; have C4 : Hid (CS W1 W1.heap.size (.slice ra g.nr rc) (.slice (some ⟨b, off, none⟩) g.nb lc) L [] (firsts g (g.nr + k) ++ [-1]) (W4.setCell ⟨W1.heap.size, 3, none⟩ (.slice a4 ((firsts g (g.nr + k)).length + 1) c4))) := hpf; have lw4 : W1.heap.size < W4.heap.size := lt_of_cell r2; clear hown4 hgrew4 hsz4 hpf hcb4)
              go_roundw
              case rel =>
                refine ⟨k + 1, L, by omega, by go_num, ?_, ?_⟩
                · rw [HSK.out]; exact HL.out
                · show CS _ _ _ _ _ _ (firsts g (g.nr + k + 1)) _
                  rw [firsts_succ, HPP.out]; exact C4.out
              case measure => simp [intOf]; omega
          · obtain rfl : k = g.nb := by omega
            have HTO : Hid (∀ (i : Nat) (x : IC), L[i]? = some x → x.d.kind = 6 ∨ x.d.kind = 8 → ∃ n : Nat, x.d.to = (n : Int) ∧ (firsts g (g.nr + g.nb))[n]? = some (fG g x.d.to)) := fun i x hx hkk => by
              have hm : x.d ∈ progI g (g.nr + g.nb) := by rw [← HL.out]; exact List.mem_map.2 ⟨x, List.mem_of_getElem? hx, rfl⟩
              obtain ⟨n, hn, he⟩ := progI_to HV.out (g.nr + g.nb) (Nat.le_refl _) x.d hm hkk
              refine ⟨n, he, ?_⟩
              rw [he, firsts_get g hn]
              rfl
            have hl0 : 0 < L.length := by
              have h3 := HLL.out
              have h4 : (progI g 0).length ≤ (progI g (g.nr + g.nb)).length := by
                have : ∀ j, (progI g 0).length ≤ (progI g j).length := by
                  intro j
                  induction j with
                  | zero => exact Nat.le_refl _
                  | succ j ih =>
                    by_cases q : 0 < (nd g j).bl
                    · rw [progI_succ g j q, List.length_append]; omega
                    · rw [progI_skip g j q]; exact ih
                exact this _
              rw [progI_len, progI_len] at h4
              have h5 : PL g 0 = 2 := rfl
              omega
            go_wp2_with fail
            refine (link_any W1 W1.heap.size _ _ L (firsts g (g.nr + g.nb)) (fG g) _ HC.out hl0 (by have := HLL.out; omega) (by rw [firsts_len]; omega) HTO.out).mono ?_
            rintro e W6 ⟨⟨v6, rfl⟩, hc6⟩
            obtain ⟨P, F, S, vp, vf, hP⟩ := hc6
            obtain ⟨pa, pc, rfl⟩ := own_shape hP.own
            have HP : Hid (CP W1 W1.heap.size (.slice ra g.nr rc) (.slice la g.nb lc) (L.map (lkI (fG g))) [] (firsts g (g.nr + g.nb)) W6 P F S (.slice pa (L.map (lkI (fG g))).length pc) vf) := hP
            have p2 := hP.p
            have lcb := hP.cb0.2
            clear hP hl0
            go_wp2
            refine bodyPost_ret (by simp [results, Try.f36, go_sem]; rfl) rfl ?_
            have hP := HP.out
            have hsets := hP.sets
            have hnd := hP.nodup
            rw [List.append_nil] at hsets hnd
            have hb1 := B1.out.size
            have hown : OwnC P W6 (.slice pa L.length pc) 4 (L.map (lkI (fG g))).length (cellsI (L.map (lkI (fG g)))) := by
              have := hP.own
              rw [List.length_map] at this ⊢
              exact this
            refine ⟨.inl ⟨HV.out, pa, _, pc, L.map (lkI (fG g)), P, S, rfl, (List.length_map _).symm, ?_, hown, hsets, hP.softS, ?_, ?_, hnd⟩, bel_tr B1.out hP.bel⟩
            · rw [← link_prog, ← HL.out, List.map_map, List.map_map]
              rfl
            · intro z hz
              have := hP.rp z hz
              exact ⟨⟨by omega, this.2.1⟩, this.2.2.2.2⟩
            · intro z hz
              have := hP.rs z hz
              exact ⟨by omega, this.2.1⟩

end Go.Proofs.Ytjndcajblpgjmaa
