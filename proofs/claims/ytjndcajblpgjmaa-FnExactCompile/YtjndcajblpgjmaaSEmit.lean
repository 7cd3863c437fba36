/-
  Walks: the specification's Compile.
-/
import Derived.Test.YtjndcajblpgjmaaSEmB
import Derived.Test.YtjndcajblpgjmaaSEmN
import Derived.Test.YtjndcajblpgjmaaSEmS
import Derived.Test.YtjndcajblpgjmaaSEmT
import Derived.Test.YtjndcajblpgjmaaSValid
namespace Go.Proofs.Ytjndcajblpgjmaa
open Go.RowKit
open M (OpD NodeD Gr InsD EX ins emit wsum wt)
set_option linter.unusedVariables false
set_option linter.unusedSimpArgs false

theorem l4expr_any (Q : Nat → Prop) (ra la : Option Addr) (rc lc : Nat) (g : Gr) (hV : M.Valid g) (b off N : Nat) (B : Nat → OpD) (hN : N ≤ 2000)
    (hok : ∀ i, i < N → M.ElemOK g.nr g.nb (B i)) (hi : Nat) : ∀ (lo o c l : Nat) (x : EX) (p : Nat) (pv : Int) (w : World), pv = (p : Int) → hi ≤ N → M.Fed B hi → M.stk (M.nodeE g.nr) B hi = (lo, x) :: M.stk (M.nodeE g.nr) B lo → o = off + lo * 3 → l + lo = hi → l ≤ c →
      (∀ i, i < N → OpC Q w b (off + i * 3) (B i)) → GramX Q w ra la g → p + x.len ≤ 100000 →
      Calls Try.prog 145 #[.agg #[.slice ra g.nr rc, .slice la g.nb lc], .slice (some ⟨b, o, none⟩) l c, .int .i64 pv] w (GivesR (emit (plc g) x p) w) := by
  induction hi using Nat.strongRecOn with
  | _ hi ih =>
    intro lo o c l x p pv w hpv hle hF hst
    obtain ⟨hlo, _, _⟩ := M.stk_cons _ B hi hF lo x _ hst
    obtain ⟨q, rfl⟩ : ∃ q, hi = q + 1 := ⟨hi - 1, by omega⟩
    have hE := hok q (by omega)
    have k0 := hE.1
    have k7 := hE.2.1
    by_cases e7 : (B q).kind = 7
    · exact l4expr_not Q ra la rc lc g hV b off N B hN hok q ih e7 lo o c l x p pv w hpv hle hF hst
    · by_cases e4 : (B q).kind = 4
      · exact l4expr_seq Q ra la rc lc g hV b off N B hN hok q ih e4 lo o c l x p pv w hpv hle hF hst
      · by_cases e5 : (B q).kind = 5
        · exact l4expr_alt Q ra la rc lc g hV b off N B hN hok q ih e5 lo o c l x p pv w hpv hle hF hst
        · exact l4expr_one Q ra la rc lc g hV b off N B hN hok q ih (by omega) lo o c l x p pv w hpv hle hF hst

/-- The instructions of a body. -/
theorem l4expr_body (Q : Nat → Prop) (ra la a : Option Addr) (rc lc n c : Nat) (g : Gr) (hV : M.Valid g) (B : Nat → OpD) (p : Nat) (pv : Int) (w : World) (hpv : pv = (p : Int)) (hn : n ≤ 2000) (hc : n ≤ c) (hB : OpsA Q w a n B) (hok : M.BodyOK g.nr g.nb n B) (hG : GramX Q w ra la g) (hp : p ≤ 50000) :
    Calls Try.prog 145 #[.agg #[.slice ra g.nr rc, .slice la g.nb lc], .slice a n c, .int .i64 pv] w (GivesR (emit (plc g) (M.treeE g.nr n B) p) w) := by
  have h0 : ¬ n = 0 := fun q => by
    have := hok.2.2
    rw [q, M.dep] at this
    omega
  rcases hB with q | ⟨b, off, rfl, hq, hB⟩
  · exact absurd q h0
  have hl := tree_len hok
  have hw := M.wsum_bd B n
  exact l4expr_any Q ra la rc lc g hV b off n B hn hok.1 n 0 off c n _ p pv w hpv (Nat.le_refl _) hok.2.1 (stk_whole _ B n hok.2) (by omega) (by omega) hc hB hG (by show p + (M.treeE g.nr n B).len ≤ 100000; omega)

theorem row_two {w0 w : World} (k a t k' a' t' : Int) (hb : Below w0.heap.size w0 w) :
    IRow w0 (w.alloc (.cells #[.int .i64 k, .int .i64 a, .int .i64 t, .slice none 0 0, .int .i64 k', .int .i64 a', .int .i64 t', .slice none 0 0] 118)) (.slice (some ⟨w.heap.size, 0, none⟩) 2 2) [ic k a t, ic k' a' t'] := by
  have hz : (w.alloc (.cells #[.int .i64 k, .int .i64 a, .int .i64 t, .slice none 0 0, .int .i64 k', .int .i64 a', .int .i64 t', .slice none 0 0] 118)).heap.size = w.heap.size + 1 := by simp
  have hb' := hb.size
  have hc : ∀ j, j < 8 → (w.alloc (.cells #[.int .i64 k, .int .i64 a, .int .i64 t, .slice none 0 0, .int .i64 k', .int .i64 a', .int .i64 t', .slice none 0 0] 118)).cell? ⟨w.heap.size, j, none⟩ = (cellsI [ic k a t, ic k' a' t'])[j]? := fun j hj => by
    match j, hj with
    | 0, _ => exact cN w.heap.size rfl rfl
    | 1, _ => exact cN w.heap.size rfl rfl
    | 2, _ => exact cN w.heap.size rfl rfl
    | 3, _ => exact cN w.heap.size rfl rfl
    | 4, _ => exact cN w.heap.size rfl rfl
    | 5, _ => exact cN w.heap.size rfl rfl
    | 6, _ => exact cN w.heap.size rfl rfl
    | 7, _ => exact cN w.heap.size rfl rfl
    | j + 8, hj => omega
  refine ⟨fun b => b = w.heap.size, fun _ => False, ?_, ?_, ?_, fun b q => q.elim, bel_tr hb (bel1 w _), .inr (by simp)⟩
  · refine .inr ⟨w.heap.size, 2, rfl, rfl, rfl, Nat.le_refl _, fun j hj => ?_, fun j hj => ⟨?_, ?_⟩⟩
    · have hj' : j < 8 := by simpa [cellsI, icv] using hj
      exact hc j hj'
    · rw [hc j (by omega)]
      match j, hj with
      | 0, _ => rfl
      | 1, _ => rfl
      | 2, _ => rfl
      | 3, _ => rfl
      | 4, _ => rfl
      | 5, _ => rfl
      | 6, _ => rfl
      | 7, _ => rfl
      | j + 8, hj => omega
    · exact soft1 w _ 118 w.heap.size j (Nat.le_refl _) (by rw [hz]; omega)
  · intro y hy
    simp at hy
    rcases hy with rfl | rfl <;> exact .inl rfl
  · rintro b rfl
    exact ⟨hb', by rw [hz]; omega, fun q => q⟩

theorem Ints.inw {Q : Nat → Prop} {k : IntKind} {w : World} {a : Option Addr} {n : Nat} {S : Nat → Int} (h : Ints Q k w a n S) : Ints (Of w) k w a n S := by
  by_cases e : n = 0
  · exact .inl e
  · rcases h with h | ⟨b, off, h1, hq, h2⟩
    · exact .inl h
    · exact .inr ⟨b, off, h1, lt_of_cell (h2 0 (by omega)), h2⟩
theorem OpC.inw {Q : Nat → Prop} {w : World} {b o : Nat} {d : OpD} (h : OpC Q w b o d) : OpC (Of w) w b o d := by
  obtain ⟨h1, ⟨a, c, h2, h3⟩, h4⟩ := h
  exact ⟨h1, ⟨a, c, h2, h3.inw⟩, h4⟩
theorem OpsA.inw {Q : Nat → Prop} {w : World} {a : Option Addr} {n : Nat} {B : Nat → OpD} (h : OpsA Q w a n B) : OpsA (Of w) w a n B := by
  by_cases e : n = 0
  · exact .inl e
  · rcases h with h | ⟨b, off, h1, hq, h2⟩
    · exact .inl h
    · exact .inr ⟨b, off, h1, lt_of_cell (h2 0 (by omega)).kind, fun i hi => (h2 i hi).inw⟩
theorem GramX.inw {Q : Nat → Prop} {w : World} {ra la : Option Addr} {g : Gr} (h : GramX Q w ra la g) : GramX (Of w) w ra la g := by
  refine ⟨?_, ?_⟩
  · by_cases e : g.nr = 0
    · exact .inl e
    · rcases h.rules with q | ⟨b, off, e1, hq, hR⟩
      · exact .inl q
      · have h0 : b < w.heap.size := by obtain ⟨⟨⟨a, c, c0, _⟩, _⟩, _⟩ := hR 0 (by omega); exact lt_of_cell c0
        exact .inr ⟨b, off, e1, h0, fun i hi => let ⟨⟨⟨a, c, c0, hn⟩, ⟨a', c', c1, hb⟩⟩, hc⟩ := hR i hi; ⟨⟨⟨a, c, c0, hn.inw⟩, ⟨a', c', c1, hb.inw⟩⟩, hc⟩⟩
  · by_cases e : g.nb = 0
    · exact .inl e
    · rcases h.labs with q | ⟨b, off, e1, hq, hR⟩
      · exact .inl q
      · have h0 : b < w.heap.size := by obtain ⟨⟨⟨a, c, c0, _⟩, _⟩, _⟩ := hR 0 (by omega); exact lt_of_cell c0
        exact .inr ⟨b, off, e1, h0, fun i hi => let ⟨⟨⟨a, c, c0, hn⟩, hh, ⟨a', c', c1, hb⟩⟩, hc⟩ := hR i hi; ⟨⟨⟨a, c, c0, hn.inw⟩, hh, ⟨a', c', c1, hb.inw⟩⟩, hc⟩⟩

def progG (g : Gr) (k : Nat) : List InsD := M.progC (plc g) (opG g) (trG g) (hasB g) k
theorem progG_len (g : Gr) (k : Nat) : (progG g k).length = PL g k := M.progC_len _ _ _ _ _ _
theorem progG_succ (g : Gr) (k : Nat) (h : 0 < (nd g k).bl) : progG g (k + 1) = progG g k ++ [opG g k] ++ emit (plc g) (trG g k) (PL g k + 1) ++ [ins 11 0 0] ++ [ins 7 0 0] := by
  have e : hasB g k = true := by simp [hasB, h]
  unfold progG
  rw [M.progC, if_pos e, show (M.progC (plc g) (opG g) (trG g) (hasB g) k).length = PL g k from progG_len g k]
  unfold M.nodeC
  simp
theorem progG_skip (g : Gr) (k : Nat) (h : ¬ 0 < (nd g k).bl) : progG g (k + 1) = progG g k := by
  have e : ¬ hasB g k = true := by simp [hasB, h]
  unfold progG
  rw [M.progC, if_neg e]

def cmpI (W1 : World) (g : Gr) (ov iv : Value) (wr : World) : Prop := ∃ (k : Nat) (L : List IC), k ≤ g.nr + g.nb ∧ iv = .int .i64 (k : Int) ∧ L.map IC.d = progG g k ∧ IRow W1 wr ov L

set_option maxRecDepth 100000 in
set_option maxHeartbeats 8000000 in
theorem l4compile_any (Q : Nat → Prop) (ra la : Option Addr) (rc lc : Nat) (g : Gr) (hV : M.Valid g) (w : World) (hG : GramX Q w ra la g) :
    Calls Try.prog 84 #[.agg #[.slice ra g.nr rc, .slice la g.nb lc]] w (GivesR (progG g (g.nr + g.nb)) w) := by
  have HG : Hid (GramX (Of w) w ra la g) := hG.inw
  have HV : Hid (M.Valid g) := hV
  have h1 := hV.r2
  have h2 := hV.l2
  have hr1 := hV.r1
  have HP0 : Hid (progG g 0 = [ins 6 0 2, ins 12 0 0]) := by
    show _ = _
    have hb : 0 < (nd g 0).bl := by
      rw [nd_rule g hr1]
      by_cases q : (g.rule 0).bl = 0
      · have := (hV.rb 0 hr1).2.2
        rw [q, M.dep] at this
        omega
      · omega
    have : plc g 0 = 2 := by rw [plc_eq, if_pos hb]; rfl
    unfold progG
    rw [M.progC, this]
  have HBX : Hid (Below w.heap.size w (w.alloc (.cells #[.slice ra g.nr rc, .slice la g.nb lc] 36))) := bel1 w _
  have g0 : Hid ((w.alloc (.cells #[.slice ra g.nr rc, .slice la g.nb lc] 36)).cell? ⟨w.heap.size, 0, none⟩ = some (.slice ra g.nr rc)) := cN w.heap.size rfl rfl
  have g1 : Hid ((w.alloc (.cells #[.slice ra g.nr rc, .slice la g.nb lc] 36)).cell? ⟨w.heap.size, 1, none⟩ = some (.slice la g.nb lc)) := cN w.heap.size rfl rfl
  have R0 := row_two (w := w.alloc (.cells #[.slice ra g.nr rc, .slice la g.nb lc] 36)) 6 0 2 12 0 0 (Below.refl _ _)
  rw [World.size_alloc] at R0
  have HR0 : Hid _ := R0
  clear R0 hG hV
  go_enter Try.func84, Try.ntmps84
  go_wp2
  generalize w.alloc (.cells #[.slice ra g.nr rc, .slice la g.nb lc] 36) = X at *
  go_loopw [3, 4] (fun ov iv wr => cmpI X g ov iv wr) (fun _ iv _ => g.nr + g.nb - (intOf iv).toNat)
  case atStart => exact ⟨0, _, Nat.zero_le _, rfl, by rw [HP0.out]; rfl, HR0.out⟩
  case round =>
    obtain ⟨k, L, hk, rfl, hL, hR⟩ := hrel
    obtain ⟨oa, oc, rfl⟩ := hR.shape
    have HL : Hid (L.map IC.d = progG g k) := hL
    have HR : Hid (IRow X wr (.slice oa L.length oc) L) := hR
    have HLL : Hid (L.length = PL g k) := by show _ = _; rw [← progG_len, ← hL, List.length_map]
    have hps := PL_small HV.out k hk
    have y0 := cell_on g0.out hR.bel
    have y1 := cell_on g1.out hR.bel
    have lw := lt_of_cell y0
    clear hL hR
    go_wp2_with fail
    refine (l3nodes_any ra la g.nr rc g.nb lc wr h1 h2).mono ?_
    rintro e W1 ⟨rfl, hb1⟩
    have B1 : Hid (Below wr.heap.size wr W1) := hb1
    replace y0 := cell_on y0 hb1
    replace y1 := cell_on y1 hb1
    have lw1 := lt_of_cell y0
    clear hb1
    by_cases hlt : k < g.nr + g.nb
    · have hlt' : (k : Int) < ((g.nr + g.nb : Nat) : Int) := by omega
      have BW1 : Hid (Below w.heap.size w W1) := bel_tr (bel_tr HBX.out HR.out.bel) B1.out
      go_wp2_with fail
      refine (l3body_any (Of w) ra la rc lc g _ (HG.out.later BW1.out) h1 h2 k hlt).mono ?_
      rintro e W2 ⟨⟨a2, c2, rfl, ho2, hc2⟩, hb2⟩
      have B2 : Hid (Below wr.heap.size wr W2) := bel_tr B1.out hb2
      have HO2 : Hid (OpsA (Of w) W2 a2 (nd g k).bl (nd g k).body) := ho2
      have HC2 : Hid ((nd g k).bl ≤ c2) := hc2
      have BW2 : Hid (Below w.heap.size w W2) := bel_tr BW1.out hb2
      replace y0 := cell_on y0 hb2
      replace y1 := cell_on y1 hb2
      have lw2 := lt_of_cell y0
      have HBD : Hid ((nd g k).bl ≤ 2000) := nd_bd HV.out hlt
      clear ho2 hc2 hb2
      by_cases hb0 : 0 < (nd g k).bl
      · have f0 : (((nd g k).bl : Int) == 0) = false := by simp; omega
        have HOK : Hid (M.BodyOK g.nr g.nb (nd g k).bl (nd g k).body) := (valid_node HV.out hlt).elim (fun q => by omega) id
        have HSU : Hid (progG g (k + 1) = progG g k ++ [opG g k] ++ emit (plc g) (trG g k) (PL g k + 1) ++ [ins 11 0 0] ++ [ins 7 0 0]) := progG_succ g k hb0
        have HTL : Hid ((trG g k).len ≤ 4000) := by
          show (M.treeE g.nr (nd g k).bl (nd g k).body).len ≤ 4000
          have := M.wsum_bd (nd g k).body (nd g k).bl
          rw [tree_len HOK.out]
          have := HBD.out
          omega
        have X0 : Hid (X.cell? ⟨w.heap.size, 0, none⟩ = some (.slice ra g.nr rc)) := g0.out
        have X1 : Hid (X.cell? ⟨w.heap.size, 1, none⟩ = some (.slice la g.nb lc)) := g1.out
        obtain ⟨ok, oa1, hop, hge⟩ : ∃ ok oa1 : Int, opG g k = ins ok oa1 0 ∧ ((k < g.nr ∧ ok = 9 ∧ oa1 = (k : Int)) ∨ (¬ k < g.nr ∧ ok = 10 ∧ oa1 = (k : Int) - (g.nr : Int))) := by
          unfold opG
          by_cases e : k < g.nr
          · exact ⟨9, k, by rw [if_pos e], .inl ⟨e, rfl, rfl⟩⟩
          · exact ⟨10, (k : Int) - (g.nr : Int), by rw [if_neg e]; congr 1; omega, .inr ⟨e, rfl, rfl⟩⟩
        have HOP : Hid (opG g k = ins ok oa1 0) := hop
        obtain ⟨fl, hfl⟩ : ∃ fl : Bool, decide ((g.nr : Int) ≤ (k : Int)) = fl := ⟨_, rfl⟩
        clear hop hb0
        rcases hge with ⟨e, rfl, rfl⟩ | ⟨e, rfl, rfl⟩
        · obtain rfl : fl = false := by rw [← hfl]; simp; omega
          have HR2 : Hid (IRow X (W2.alloc (.cells #[.int .i64 9, .int .i64 (k : Int), .int .i64 0, .slice none 0 0] 118)) (.slice oa L.length oc) L) := HR.out.later (bel_tr B2.out (bel1 W2 _))
          have R1 := row_ic (w := W2.alloc (.cells #[.int .i64 9, .int .i64 (k : Int), .int .i64 0, .slice none 0 0] 118)) 9 (k : Int) 0 (Below.refl _ _)
          rw [World.size_alloc] at R1
          have HR1 : Hid _ := R1
          clear R1
          go_wp2_with (at_builtin; refine rowA (L := L) (L2 := [ic 9 (k : Int) 0]) rfl _ _ rfl rfl rfl HR2.out HR1.out (by show L.length + 1 ≤ 16777216; have := HLL.out; omega) ?_; intro W3 L3 n3 a3 c3 E1 E2 E3; have u0 := cell_on X0.out E3.out.bel; have u1 := cell_on X1.out E3.out.bel; have lw3 := lt_of_cell u0)
          have HN3 : Hid (n3 = PL g k + 1) := by show _ = _; rw [E2.out, E1.out, List.length_append, HLL.out]; rfl
          have BW3 : Hid (Below w.heap.size w W3) := bel_tr HBX.out E3.out.bel
          have HST : Hid (Stay (Of w) W2 W3) := fun z hz => (BW3.out.block z hz).trans (BW2.out.block z hz).symm
          refine (l4expr_body (Of w) ra la a2 rc lc (nd g k).bl c2 g HV.out (nd g k).body n3 _ _ rfl HBD.out HC2.out (HO2.out.on HST.out) HOK.out (HG.out.later BW3.out) (by have := HN3.out; omega)).mono ?_
          rintro e W4 ⟨a4, n4, c4, L4, rfl, HN4, HM4, HR4⟩
          have HL4 : Hid (L4.length = (trG g k).len) := by show _ = _; rw [(len_of HN4.out HM4.out).1, M.emit_len]; rfl
          go_wp2_with (first
            | (at_builtin; refine rowA (L := L3) (L2 := L4) rfl _ _ rfl rfl rfl E3.out HR4.out (by have h1 := HN3.out; have h2 := E2.out; have h3 := HL4.out; have h4 := HTL.out; omega) ?_; intro W5 L5 n5 a5 c5 G1 G2 G3)
            | (at_builtin; refine rowA (L := L5) (L2 := [ic 11 0 0]) rfl _ _ rfl rfl rfl G3.out (row_ic 11 0 0 (Below.refl _ W5)) (by show L5.length + 1 ≤ 16777216; have h1 := HN3.out; have h2 := E2.out; have h3 := HL4.out; have h4 := HTL.out; rw [G1.out, List.length_append]; omega) ?_; intro W6 L6 n6 a6 c6 J1 J2 J3)
            | (at_builtin; refine rowA (L := L6) (L2 := [ic 7 0 0]) rfl _ _ rfl rfl rfl J3.out (row_ic 7 0 0 (Below.refl _ W6)) (by show L6.length + 1 ≤ 16777216; have h1 := HN3.out; have h2 := E2.out; have h3 := HL4.out; have h4 := HTL.out; rw [J1.out, G1.out, List.length_append, List.length_append]; show L3.length + L4.length + 1 + 1 ≤ 16777216; omega) ?_; intro W7 L7 n7 a7 c7 K1 K2 K3))
          go_roundw
          case rel =>
            refine ⟨k + 1, L7, by omega, by go_num, ?_, K3.out⟩
            rw [K1.out, J1.out, G1.out, E1.out, HSU.out, HOP.out, List.map_append, List.map_append, List.map_append, List.map_append, HL.out, HM4.out, HN3.out]
            rfl
          case measure => simp [intOf]; omega
        · obtain rfl : fl = true := by rw [← hfl]; simp; omega
          have HR2 : Hid (IRow X (W2.alloc (.cells #[.int .i64 10, .int .i64 ((k : Int) - (g.nr : Int)), .int .i64 0, .slice none 0 0] 118)) (.slice oa L.length oc) L) := HR.out.later (bel_tr B2.out (bel1 W2 _))
          have R1 := row_ic (w := W2.alloc (.cells #[.int .i64 10, .int .i64 ((k : Int) - (g.nr : Int)), .int .i64 0, .slice none 0 0] 118)) 10 ((k : Int) - (g.nr : Int)) 0 (Below.refl _ _)
          rw [World.size_alloc] at R1
          have HR1 : Hid _ := R1
          clear R1
          go_wp2_with (at_builtin; refine rowA (L := L) (L2 := [ic 10 ((k : Int) - (g.nr : Int)) 0]) rfl _ _ rfl rfl rfl HR2.out HR1.out (by show L.length + 1 ≤ 16777216; have := HLL.out; omega) ?_; intro W3 L3 n3 a3 c3 E1 E2 E3; have u0 := cell_on X0.out E3.out.bel; have u1 := cell_on X1.out E3.out.bel; have lw3 := lt_of_cell u0)
          have HN3 : Hid (n3 = PL g k + 1) := by show _ = _; rw [E2.out, E1.out, List.length_append, HLL.out]; rfl
          have BW3 : Hid (Below w.heap.size w W3) := bel_tr HBX.out E3.out.bel
          have HST : Hid (Stay (Of w) W2 W3) := fun z hz => (BW3.out.block z hz).trans (BW2.out.block z hz).symm
          refine (l4expr_body (Of w) ra la a2 rc lc (nd g k).bl c2 g HV.out (nd g k).body n3 _ _ rfl HBD.out HC2.out (HO2.out.on HST.out) HOK.out (HG.out.later BW3.out) (by have := HN3.out; omega)).mono ?_
          rintro e W4 ⟨a4, n4, c4, L4, rfl, HN4, HM4, HR4⟩
          have HL4 : Hid (L4.length = (trG g k).len) := by show _ = _; rw [(len_of HN4.out HM4.out).1, M.emit_len]; rfl
          go_wp2_with (first
            | (at_builtin; refine rowA (L := L3) (L2 := L4) rfl _ _ rfl rfl rfl E3.out HR4.out (by have h1 := HN3.out; have h2 := E2.out; have h3 := HL4.out; have h4 := HTL.out; omega) ?_; intro W5 L5 n5 a5 c5 G1 G2 G3)
            | (at_builtin; refine rowA (L := L5) (L2 := [ic 11 0 0]) rfl _ _ rfl rfl rfl G3.out (row_ic 11 0 0 (Below.refl _ W5)) (by show L5.length + 1 ≤ 16777216; have h1 := HN3.out; have h2 := E2.out; have h3 := HL4.out; have h4 := HTL.out; rw [G1.out, List.length_append]; omega) ?_; intro W6 L6 n6 a6 c6 J1 J2 J3)
            | (at_builtin; refine rowA (L := L6) (L2 := [ic 7 0 0]) rfl _ _ rfl rfl rfl J3.out (row_ic 7 0 0 (Below.refl _ W6)) (by show L6.length + 1 ≤ 16777216; have h1 := HN3.out; have h2 := E2.out; have h3 := HL4.out; have h4 := HTL.out; rw [J1.out, G1.out, List.length_append, List.length_append]; show L3.length + L4.length + 1 + 1 ≤ 16777216; omega) ?_; intro W7 L7 n7 a7 c7 K1 K2 K3))
          go_roundw
          case rel =>
            refine ⟨k + 1, L7, by omega, by go_num, ?_, K3.out⟩
            rw [K1.out, J1.out, G1.out, E1.out, HSU.out, HOP.out, List.map_append, List.map_append, List.map_append, List.map_append, HL.out, HM4.out, HN3.out]
            rfl
          case measure => simp [intOf]; omega
      · have f0 : (((nd g k).bl : Int) == 0) = true := by simp; omega
        have HSK : Hid (progG g (k + 1) = progG g k) := progG_skip g k hb0
        clear hb0
        go_wp2
        go_roundw
        case rel => exact ⟨k + 1, L, by omega, by go_num, by rw [HSK.out]; exact HL.out, HR.out.later B2.out⟩
        case measure => simp [intOf]; omega
    · obtain rfl : k = g.nr + g.nb := by omega
      go_wp2
      go_ret
      exact givesR (HR.out.since HBX.out |>.later B1.out) HL.out

end Go.Proofs.Ytjndcajblpgjmaa
