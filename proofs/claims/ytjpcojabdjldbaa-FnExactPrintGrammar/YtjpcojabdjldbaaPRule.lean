/-
  Walks: the program's PrintGrammar.
-/
import Derived.Test.YtjpcojabdjldbaaPExpr2
import Derived.Test.YtjpcojabdjldbaaPFold
import Derived.Test.YtjpcojabdjldbaaValid
import Derived.Deep.RegionHeld3
namespace Go.Proofs.Ytjpcojabdjldbaa
open Go.RowKit
open M (OpD NodeD Gr TX b1)
set_option linter.unusedVariables false
set_option linter.unusedSimpArgs false

set_option maxRecDepth 100000 in
set_option maxHeartbeats 8000000 in
theorem appendRule_any (Q Qs : Nat → Prop) (v ve : Value) (r : ByteArray) (na : Option Addr) (nl nc : Nat) (T : Nat → Int) (t : TX) (w : World) (hO : OutQ Q w v r) (hN : Ints Qs .u8 w na nl T) (hT : Byt nl T) (h0 : 0 < nl) (h1 : nl ≤ 32) (hv : IsV Qs w t ve) (hq : Apart Qs Q w) (hF : t.Fine) (hL : r.size + (lineT (str nl T) t).size ≤ 12000000) :
    Calls Try.prog 51 #[v, .slice na nl nc, ve] w (Puts Q r (lineT (str nl T) t) w) := by
  have H : Hid (Gone Q w w v r) := Gone.start hO
  obtain ⟨va, vc, rfl⟩ := hO.shape
  obtain ⟨u, p, rfl⟩ := hv.iface
  have HV : Hid (IsV Qs w t (.iface u p)) := hv
  have HQ : Hid (Apart Qs Q w) := hq
  have HF : Hid t.Fine := hF
  have HL : Hid (r.size + (nl + t.text.size + 6) ≤ 12000000) := by
    show _ ≤ _
    rw [line_size, str_size] at hL
    exact hL
  have HS : Hid (Src Try.prog 1 22 (.slice na nl nc) (str nl T).size (bv (str nl T)) w) := src_ints hN hT
  have hs1 : (str nl T).size = nl := str_size nl T
  have HTX : Hid (lineT (str nl T) t = str nl T ++ ⟨#[32, 61, 32]⟩ ++ t.text ++ ⟨#[32, 59, 10]⟩) := rfl
  have hr : r.size ≤ 12000000 := by have := HL.out; omega
  generalize str nl T = nm at *
  have HNM : Hid (nm.size = nl) := hs1
  clear hO hN hT hv hq hF hL hs1
  go_enter Try.func51, Try.ntmps51
  go_wp2_with (first
    | (at_builtin; refine outA (t := nm) rfl _ _ 22 rfl rfl rfl H.out HS.out 12000000 32 hr (by have := HNM.out; omega) (by omega) (by have := HNM.out; omega) ?_; intro W1 r1 a1 c1 E1 E2 E3)
    | (at_builtin; refine outA (t := ⟨#[32, 61, 32]⟩) rfl _ _ 9 rfl rfl rfl E3.out (src_str _ ⟨#[32, 61, 32]⟩) 12000032 4 E2.out (by decide) (by omega) (by decide) ?_; intro W2 r2 a2 c2 F1 F2 F3))
  refine (F3.out.call (fun Q' ho hq' => appendExpr_any t Q' Qs _ (.iface u p) r2 _ ho (IsV.on (HQ.out.gone F3.out) t (.iface u p) HV.out) (HQ.out.next F3.out.size hq') HF.out (by have h1 := HL.out; have h2 := size_eq E1.out; have h3 := size_eq F1.out; have h4 := HNM.out; have h5 : (ByteArray.mk #[32, 61, 32]).size = 3 := rfl; omega))).mono ?_
  rintro e W3 ⟨a3, c3, r3, rfl, G1, G2, G3⟩
  go_wp2_with (at_builtin; refine outA (t := ⟨#[32, 59, 10]⟩) rfl _ _ 9 rfl rfl rfl G3.out (src_str _ ⟨#[32, 59, 10]⟩) 12000000 4 (by have h1 := HL.out; have h2 := size_eq E1.out; have h3 := size_eq F1.out; have h4 := HNM.out; have h5 : (ByteArray.mk #[32, 61, 32]).size = 3 := rfl; have h6 := G2.out; omega) (by decide) (by omega) (by decide) ?_; intro W4 r4 a4 c4 K1 K2 K3)
  go_ret
  exact ⟨_, rfl, by rw [HTX.out, ← ByteArray.append_assoc, ← ByteArray.append_assoc, ← ByteArray.append_assoc, ← E1.out, ← F1.out, ← G1.out, ← K1.out]; exact K3.out⟩

/-- A text of whatever blocks that came since. -/
def NewOut (w0 w : World) (v : Value) (s : ByteArray) : Prop := Gone (fun _ => False) w0 w v s
theorem NewOut.below {w0 w : World} {v : Value} {s : ByteArray} (h : NewOut w0 w v s) : Below w0.heap.size w0 w := h.keep.below (Nat.le_refl _) (fun _ _ q => q)
theorem NewOut.later {w0 w w' : World} {v : Value} {s : ByteArray} (h : NewOut w0 w v s) (k : Below w.heap.size w w') : NewOut w0 w' v s := Gone.later h k

def prI (w0 : World) (n : Nat) (f : Nat → ByteArray) (ov iv : Value) (wr : World) : Prop := ∃ k : Nat, k ≤ n ∧ iv = .int .i64 (k : Int) ∧ NewOut w0 wr ov (f k)

/-- What PrintGrammar answers. -/
def PrintIs (g : Gr) (w : World) (e : Ending) (w' : World) : Prop := ∃ v, e = .returned v ∧ ((M.Valid g ∧ NewOut w w' v (gText g)) ∨ (¬ M.Valid g ∧ v = .slice none 0 0 ∧ Below w.heap.size w w'))

theorem NameByt {n : Nat} {T : Nat → Int} (h : M.NameOK n T) : Byt n T := fun i hi => by
  rcases h.2.1 i hi with q | q
  · unfold M.Letter at q; omega
  · unfold M.Digit at q; omega

theorem enter51 (args : Array Value) (w : World) : (callFunc 51 args).run Try.prog w = .ok (.enter 51 args) w := by
  simp [callFunc, Try.func51, Try.f51, go_sem]
theorem enter52 (args : Array Value) (w : World) : (callFunc 52 args).run Try.prog w = .ok (.enter 52 args) w := by
  simp [callFunc, Try.func52, Try.f52, go_sem]

theorem newOut_next {W1 X W : World} {Q' : Nat → Prop} {v : Value} {r : ByteArray} (hq : ∀ b, Q' b → W1.heap.size ≤ b) (hb : Below W1.heap.size W1 X) (h : Gone Q' X W v r) : NewOut W1 W v r := by
  obtain ⟨Q2, h1, h2, h3⟩ := h
  refine ⟨Q2, h1, fun b hb2 => .inr ?_, ?_⟩
  · rcases h2 b hb2 with q | q
    · exact hq b q
    · have := hb.size; omega
  · exact ⟨h3.os.trans hb.os, h3.tape.trans hb.tape, h3.output.trans hb.output, Nat.le_trans hb.size h3.size, fun k hk _ => (h3.block k (Nat.lt_of_lt_of_le hk hb.size) (fun q => by have := hq k q; omega)).trans (hb.block k hk)⟩
/-- What the old blocks hold is there as long as the text's blocks alone are written. -/
theorem stay_old {W1 X W : World} {Q' : Nat → Prop} (hq : ∀ b, Q' b → W1.heap.size ≤ b) (hb : Below W1.heap.size W1 X) (k : Keep Q' X W) : Stay (Of W1) W1 W := fun b hb2 => by
  have hb3 : b < W1.heap.size := hb2
  exact (k.block b (Nat.lt_of_lt_of_le hb3 hb.size) (fun q => by have := hq b q; omega)).trans (hb.block b hb3)
theorem GramA.inw {Q : Nat → Prop} {w : World} {ra la : Option Addr} {g : Gr} (h : GramA Q w ra la g) : GramA (Of w) w ra la g := by
  refine ⟨?_, ?_⟩
  · by_cases e : g.nr = 0
    · exact .inl e
    · rcases h.rules with q | ⟨b, off, e1, hq, hR⟩
      · exact .inl q
      · have h0 : b < w.heap.size := by obtain ⟨⟨a, c, c0, _⟩, _⟩ := hR 0 (by omega); exact lt_of_cell c0
        exact .inr ⟨b, off, e1, h0, fun i hi => let ⟨⟨a, c, c0, hn⟩, ⟨a', c', c1, hb⟩⟩ := hR i hi; ⟨⟨a, c, c0, hn.inw⟩, ⟨a', c', c1, hb.inw⟩⟩⟩
  · by_cases e : g.nb = 0
    · exact .inl e
    · rcases h.labs with q | ⟨b, off, e1, hq, hR⟩
      · exact .inl q
      · have h0 : b < w.heap.size := by obtain ⟨⟨a, c, c0, _⟩, _⟩ := hR 0 (by omega); exact lt_of_cell c0
        exact .inr ⟨b, off, e1, h0, fun i hi => let ⟨⟨a, c, c0, hn⟩, hh, ⟨a', c', c1, hb⟩⟩ := hR i hi; ⟨⟨a, c, c0, hn.inw⟩, hh, ⟨a', c', c1, hb.inw⟩⟩⟩
theorem GramA.on {Q : Nat → Prop} {w w' : World} {ra la : Option Addr} {g : Gr} (h : GramA Q w ra la g) (k : Stay Q w w') : GramA Q w' ra la g := ⟨h.rules.on k, h.labs.on k⟩
theorem apart_old {W1 X W : World} {Q' Q2 : Nat → Prop} (hq : ∀ b, Q' b → W1.heap.size ≤ b) (hb : Below W1.heap.size W1 X) (hs : X.heap.size ≤ W.heap.size) (h2 : ∀ b, Q2 b → Q' b ∨ X.heap.size ≤ b) : Apart (Of W1) Q2 W := fun b hb2 => by
  have hb3 : b < W1.heap.size := hb2
  have := hb.size
  refine ⟨fun q => ?_, by omega⟩
  rcases h2 b q with q | q
  · have := hq b q; omega
  · omega
theorem src_kept {w w' : World} {g n c : Nat} {s : ByteArray} (hn : n = s.size) (cs : Array Value) (hcs : cs.toList = bv s) (hg : g = w.heap.size) (k : Below (w.alloc (.cells cs 5)).heap.size (w.alloc (.cells cs 5)) w') : Src Try.prog 1 22 (.slice (some ⟨g, 0, none⟩) n c) s.size (bv s) w' := by
  subst hg
  refine src_cells hn (fun j u hu => cell_on (cN w.heap.size rfl ?_) k)
  rw [← hcs] at hu
  simpa using hu

/-- What a line of PrintGrammar leans on, in every world in which nothing but the text was written. -/
structure LineOK (W1 X : World) (Q' : Nat → Prop) (ra la na ba : Option Addr) (nl bl : Nat) (T : Nat → Int) (B : Nat → OpD) (g : Gr) : Prop where
  q : ∀ b, Q' b → W1.heap.size ≤ b
  bel : Below W1.heap.size W1 X
  gram : GramA (Of W1) W1 ra la g
  name : Ints (Of W1) .u8 W1 na nl T
  body : OpsA (Of W1) W1 ba bl B
  ok : M.BodyOK g.nr g.nb bl B
  nok : M.NameOK nl T
  valid : M.Valid g
  small : bl ≤ 2000
theorem LineOK.tree {W1 X : World} {Q' : Nat → Prop} {ra la na ba : Option Addr} {nl bl : Nat} {T : Nat → Int} {B : Nat → OpD} {g : Gr} (h : LineOK W1 X Q' ra la na ba nl bl T B g) (rc lc bc : Nat) {W : World} (k : Keep Q' X W) :
    Calls Try.prog 52 #[.agg #[.slice ra g.nr rc, .slice la g.nb lc], .slice ba bl bc] W (fun e w' => ∃ u p, e = .returned (.iface u p) ∧ Hid (IsV (Of W1) W1 (treeB g bl B) (.iface u p)) ∧ Below W.heap.size W w') := by
  have hst := stay_old h.q h.bel k
  refine (treeOf_any (Of W1) (Of W1) ra la ba rc lc bl bc g B W (h.gram.on hst) (h.body.on hst) (fun b hb => by have hb' : b < W1.heap.size := hb; have := h.bel.size; have := k.size; omega) h.ok (by have := h.small; omega) h.valid.r2 h.valid.l2).mono ?_
  rintro e w' ⟨u, p, rfl, hv, hb⟩
  exact ⟨u, p, rfl, IsV.on (fun b hb => (hst b hb).symm) _ _ hv.out, hb⟩
theorem LineOK.line {W1 X : World} {Q' : Nat → Prop} {ra la na ba : Option Addr} {nl bl : Nat} {T : Nat → Int} {B : Nat → OpD} {g : Gr} (h : LineOK W1 X Q' ra la na ba nl bl T B g) (nc : Nat) {W : World} {v ve : Value} {s : ByteArray} (hg : Gone Q' X W v s) (hv : IsV (Of W1) W1 (treeB g bl B) ve) (hL : s.size + (lineT (str nl T) (treeB g bl B)).size ≤ 12000000) :
    Calls Try.prog 51 #[v, .slice na nl nc, ve] W (fun e w' => ∃ a c r, e = .returned (.slice a r.size c) ∧ Hid (r = s ++ lineT (str nl T) (treeB g bl B)) ∧ Hid (r.size = s.size + (lineT (str nl T) (treeB g bl B)).size) ∧ Hid (Gone Q' X w' (.slice a r.size c) r)) := by
  have hst := stay_old h.q h.bel hg.keep
  exact hg.call (fun Q2 ho hq2 => appendRule_any Q2 (Of W1) v ve s na nl nc T (treeB g bl B) W ho (h.name.on hst) (NameByt h.nok) h.nok.2.2.1 h.nok.1 (IsV.on hst _ _ hv) (apart_old h.q h.bel hg.size hq2) (tree_fine h.valid h.ok) hL)

set_option maxRecDepth 100000 in
set_option maxHeartbeats 8000000 in
theorem printGrammar_any (Q : Nat → Prop) (ra la : Option Addr) (rc lc : Nat) (g : Gr) (w : World) (hG : GramA Q w ra la g) (hs : SmallG g) :
    Calls Try.prog 19 #[.agg #[.slice ra g.nr rc, .slice la g.nb lc]] w (PrintIs g w) := by
  have HG : Hid (GramA Q w ra la g) := hG
  have HS : Hid (SmallG g) := hs
  clear hG hs
  go_enter Try.func19, Try.ntmps19
  go_wp2_with fail
  refine (validGrammar_any Q ra la rc lc g _ (HG.out.later (bel1 w _)) HS.out).mono ?_
  rintro e W1 ⟨⟨r, rfl, hr⟩, hb⟩
  have g0 := cell_on (a := ⟨w.heap.size, 0, none⟩) (v := .slice ra g.nr rc) (cN w.heap.size rfl rfl) hb
  have g1 := cell_on (a := ⟨w.heap.size, 1, none⟩) (v := .slice la g.nb lc) (cN w.heap.size rfl rfl) hb
  have B1 : Hid (Below w.heap.size w W1) := bel_tr (bel1 w _) hb
  have hw1 : w.heap.size < W1.heap.size := lt_of_cell g0
  clear hb
  cases r with
  | false =>
    have HV : Hid (¬ M.Valid g) := fun q => absurd (hr.2 q) (by decide)
    clear hr
    go_wp2
    go_ret
    exact ⟨_, rfl, .inr ⟨HV.out, rfl, B1.out⟩⟩
  | true =>
    have HV : Hid (M.Valid g) := hr.1 rfl
    clear hr
    have h1 := HV.out.r2
    have h2 := HV.out.l2
    have HG1 : Hid (GramA (Of W1) W1 ra la g) := (HG.out.later B1.out).inw
    have G0 : Hid (W1.cell? ⟨w.heap.size, 0, none⟩ = some (.slice ra g.nr rc)) := g0
    have G1 : Hid (W1.cell? ⟨w.heap.size, 1, none⟩ = some (.slice la g.nb lc)) := g1
    go_wp2
    go_loopw [3, 14] (fun ov iv wr => prI W1 g.nr (rulesT g) ov iv wr) (fun _ iv _ => g.nr - (intOf iv).toNat)
    case atStart => exact ⟨0, Nat.zero_le _, rfl, Gone.start (OutQ.nil W1)⟩
    case round =>
      obtain ⟨k, hk, rfl, hno⟩ := hrel
      have HB1 : Hid (Below W1.heap.size W1 wr) := hno.below
      have y0 := cell_on G0.out HB1.out
      have y1 := cell_on G1.out HB1.out
      clear g0 g1
      by_cases hlt : k < g.nr
      · obtain ⟨Q', ho, hq', hkp⟩ := hno
        obtain ⟨oa, oc, rfl⟩ := ho.shape
        rcases HG1.out.rules with q | ⟨b, off, rfl, hq, hR⟩
        · omega
        obtain ⟨⟨na, nc, c0, hn⟩, ⟨ba, bc, c1, hb⟩⟩ := hR k hlt
        replace c0 := cell_on c0 HB1.out
        replace c1 := cell_on c1 HB1.out
        have hbl : b < wr.heap.size := lt_of_cell c0
        have hgl : w.heap.size < wr.heap.size := lt_of_cell y0
        have hsz := rulesT_bd HV.out k hk
        have hsz2 := rulesT_bd HV.out (k + 1) (by omega)
        have HRT : Hid (rulesT g (k + 1) = rulesT g k ++ lineT (str (g.rule k).nl (g.rule k).name) (treeB g (g.rule k).bl (g.rule k).body)) := rfl
        have HLS : Hid ((rulesT g k).size + (lineT (str (g.rule k).nl (g.rule k).name) (treeB g (g.rule k).bl (g.rule k).body)).size ≤ 12000000) := by
          show _ ≤ _
          rw [HRT.out, ByteArray.size_append] at hsz2
          omega
        have HLK : Hid (LineOK W1 (wr.alloc (.cells #[.slice na (g.rule k).nl nc, .slice ba (g.rule k).bl bc] 60)) Q' (some ⟨b, off, none⟩) la na ba (g.rule k).nl (g.rule k).bl (g.rule k).name (g.rule k).body g) :=
          ⟨fun z hz => (hq' z hz).elim (fun q => q.elim) id, bel_tr HB1.out (bel1 wr _), HG1.out, hn, hb, HV.out.rb k hlt, HV.out.rn k hlt, HV.out, rbl_bd HV.out hlt⟩
        have HGO : Hid (Gone Q' (wr.alloc (.cells #[.slice na (g.rule k).nl nc, .slice ba (g.rule k).bl bc] 60)) (wr.alloc (.cells #[.slice na (g.rule k).nl nc, .slice ba (g.rule k).bl bc] 60)) (.slice oa (rulesT g k).size oc) (rulesT g k)) := Gone.start (ho.later (bel1 wr _))
        have x0 : (wr.alloc (.cells #[.slice na (g.rule k).nl nc, .slice ba (g.rule k).bl bc] 60)).cell? ⟨wr.heap.size, 0, none⟩ = some (.slice na (g.rule k).nl nc) := cN wr.heap.size rfl rfl
        have x1 : (wr.alloc (.cells #[.slice na (g.rule k).nl nc, .slice ba (g.rule k).bl bc] 60)).cell? ⟨wr.heap.size, 1, none⟩ = some (.slice ba (g.rule k).bl bc) := cN wr.heap.size rfl rfl
        have x2 := cellOn (.cells #[.slice na (g.rule k).nl nc, .slice ba (g.rule k).bl bc] 60) y0
        have x3 := cellOn (.cells #[.slice na (g.rule k).nl nc, .slice ba (g.rule k).bl bc] 60) y1
        have HNX : Hid (¬ Q' wr.heap.size) := fun q => Nat.lt_irrefl _ (ho.lt _ q)
        have HNG : Hid (¬ Q' w.heap.size) := fun q => by have := (hq' _ q).elim (fun q => q.elim) id; omega
        clear hR hn hb ho hq' hkp hsz hsz2 hq
        generalize rulesT g k = rt at *
        go_wp2
        generalize wr.alloc (.cells #[.slice na (g.rule k).nl nc, .slice ba (g.rule k).bl bc] 60) = X at *
        generalize wr.heap.size = xb at *
        go_region_held3 (fun W' => W'.cell? ⟨xb, 0, none⟩ = some (.slice na (g.rule k).nl nc) ∧ W'.cell? ⟨xb, 1, none⟩ = some (.slice ba (g.rule k).bl bc) ∧ W'.cell? ⟨w.heap.size, 0, none⟩ = some (.slice (some ⟨b, off, none⟩) g.nr rc) ∧ W'.cell? ⟨w.heap.size, 1, none⟩ = some (.slice la g.nb lc))
          (first | exact ⟨z0, z1, z2, z3⟩ | exact ⟨x0, x1, x2, x3⟩ | go_keep)
          (first
            | (refine stepCall2 enter52 rfl (.tmp 21) (.tmp 23) 36 58 rfl (y1 := .agg #[.slice (some ⟨b, off, none⟩) g.nr rc, .slice la g.nb lc]) (y2 := .slice ba (g.rule k).bl bc) (by simp [Act.eval, Act.put]) (by simp [Act.eval, Act.put]) ((HLK.out.tree rc lc bc (W := X.drew) (keep_b (Below.refl _ X).drew)).mono ?_)
               rintro e W2 ⟨tu, tp, rfl, HVT, hb2⟩
               have B2 : Hid (Below X.heap.size X W2) := (Below.refl _ X).drew.trans hb2
               have z0 := cell_on x0 B2.out
               have z1 := cell_on x1 B2.out
               have z2 := cell_on x2 B2.out
               have z3 := cell_on x3 B2.out
               clear hb2
               refine ⟨_, rfl, ?_⟩)
            | (refine stepCall3 enter51 rfl (.tmp 18) (.tmp 20) (.tmp 24) 22 22 73 rfl (y1 := .slice oa rt.size oc) (y2 := .slice na (g.rule k).nl nc) (y3 := .iface tu tp) (by simp [Act.eval, Act.put]) (by simp [Act.eval, Act.put]) (by simp [Act.eval, Act.put]) ((HLK.out.line nc (HGO.out.later B2.out) HVT.out HLS.out).mono ?_)
               rintro e W3 ⟨a3, c3, r3, rfl, K1, K2, K3⟩
               have z0 := (K3.out.keep.cell (p := ⟨xb, 0, none⟩) (lt_of_cell x0) HNX.out).trans x0
               have z1 := (K3.out.keep.cell (p := ⟨xb, 1, none⟩) (lt_of_cell x1) HNX.out).trans x1
               have z2 := (K3.out.keep.cell (p := ⟨w.heap.size, 0, none⟩) (lt_of_cell x2) HNG.out).trans x2
               have z3 := (K3.out.keep.cell (p := ⟨w.heap.size, 1, none⟩) (lt_of_cell x3) HNG.out).trans x3
               refine ⟨_, rfl, ?_⟩))
        all_goals go_goals
        all_goals go_wp2
        all_goals go_roundw
        case rel => exact ⟨k + 1, by omega, by go_num, by rw [HRT.out, ← K1.out]; exact newOut_next HLK.out.q HLK.out.bel K3.out⟩
        case measure => simp [intOf]; omega
      · obtain rfl : k = g.nr := by omega
        have HNO : Hid (NewOut W1 wr _ (rulesT g g.nr)) := hno
        go_wp2
        go_loopw [3, 30] (fun ov iv wr => prI W1 g.nb (labsT g) ov iv wr) (fun _ iv _ => g.nb - (intOf iv).toNat)
        case atStart => exact ⟨0, Nat.zero_le _, rfl, HNO.out⟩
        case round =>
          clear hno hk
          obtain ⟨k, hk, rfl, hno⟩ := hrel
          have HBL : Hid (Below W1.heap.size W1 wr) := hno.below
          have y0 := cell_on G0.out HBL.out
          have y1 := cell_on G1.out HBL.out
          by_cases hlt : k < g.nb
          · rcases HG1.out.labs with q | ⟨b, off, rfl, hq, hR⟩
            · omega
            obtain ⟨⟨na, nc, c0, hn⟩, ch, ⟨ba, bc, c1, hb⟩⟩ := hR k hlt
            replace c0 := cell_on c0 HBL.out
            replace ch := cell_on ch HBL.out
            replace c1 := cell_on c1 HBL.out
            have hbl : b < wr.heap.size := lt_of_cell c0
            have hgl : w.heap.size < wr.heap.size := lt_of_cell y0
            have HST : Hid (labsT g (k + 1) = if (g.lab k).has then labsT g k ++ (b1 94 ++ lineT (lname g k) (ltree g k)) else labsT g k) := rfl
            have HBO : Hid ((g.lab k).has = true → M.BodyOK g.nr g.nb (g.lab k).bl (g.lab k).body) := HV.out.lb k hlt
            have HNM : Hid (M.NameOK (g.lab k).nl (g.lab k).name) := HV.out.ln k hlt
            have HLB : Hid ((g.lab k).bl ≤ 2000) := lbl_bd HV.out hlt
            have hsz := labsT_bd HV.out k hk
            have hsz2 := labsT_bd HV.out (k + 1) (by omega)
            have HLN : Hid (lineT (lname g k) (ltree g k) = lineT (str (g.lab k).nl (g.lab k).name) (treeB g (g.lab k).bl (g.lab k).body)) := rfl
            cases hh : (g.lab k).has with
            | false =>
              rw [hh] at HST ch
              obtain ⟨oa, oc, rfl⟩ := Gone.shape hno
              have HNO2 : Hid (NewOut W1 (wr.alloc (.cells #[.slice na (g.lab k).nl nc, .bool false, .slice ba (g.lab k).bl bc] 64)) (.slice oa (labsT g k).size oc) (labsT g k)) := hno.later (bel1 wr _)
              clear hR hn hb hno hsz2 hq
              go_wp2
              go_roundw
              case rel => exact ⟨k + 1, by omega, by go_num, by rw [HST.out]; exact HNO2.out⟩
              case measure => simp [intOf]; omega
            | true =>
              obtain ⟨Q', ho, hq', hkp⟩ := hno
              obtain ⟨oa, oc, rfl⟩ := ho.shape
              rw [hh] at HST ch HBO
              have HTX : Hid (labsT g (k + 1) = labsT g k ++ b1 94 ++ lineT (str (g.lab k).nl (g.lab k).name) (treeB g (g.lab k).bl (g.lab k).body)) := by
                show _ = _
                rw [HST.out, if_pos rfl, HLN.out, ByteArray.append_assoc]
              have HLS : Hid ((labsT g k).size + 1 + (lineT (str (g.lab k).nl (g.lab k).name) (treeB g (g.lab k).bl (g.lab k).body)).size ≤ 12000000) := by
                show _ ≤ _
                rw [HTX.out, ByteArray.size_append, ByteArray.size_append, M.b1_size] at hsz2
                omega
              have HLK : Hid (LineOK W1 (wr.alloc (.cells #[.slice na (g.lab k).nl nc, .bool true, .slice ba (g.lab k).bl bc] 64)) Q' ra (some ⟨b, off, none⟩) na ba (g.lab k).nl (g.lab k).bl (g.lab k).name (g.lab k).body g) :=
                ⟨fun z hz => (hq' z hz).elim (fun q => q.elim) id, bel_tr HBL.out (bel1 wr _), HG1.out, hn, hb, HBO.out rfl, HNM.out, HV.out, HLB.out⟩
              have HGO : Hid (Gone Q' (wr.alloc (.cells #[.slice na (g.lab k).nl nc, .bool true, .slice ba (g.lab k).bl bc] 64)) (wr.alloc (.cells #[.slice na (g.lab k).nl nc, .bool true, .slice ba (g.lab k).bl bc] 64)) (.slice oa (labsT g k).size oc) (labsT g k)) := Gone.start (ho.later (bel1 wr _))
              have x0 : (wr.alloc (.cells #[.slice na (g.lab k).nl nc, .bool true, .slice ba (g.lab k).bl bc] 64)).cell? ⟨wr.heap.size, 0, none⟩ = some (.slice na (g.lab k).nl nc) := cN wr.heap.size rfl rfl
              have x1 : (wr.alloc (.cells #[.slice na (g.lab k).nl nc, .bool true, .slice ba (g.lab k).bl bc] 64)).cell? ⟨wr.heap.size, 2, none⟩ = some (.slice ba (g.lab k).bl bc) := cN wr.heap.size rfl rfl
              have xh : (wr.alloc (.cells #[.slice na (g.lab k).nl nc, .bool true, .slice ba (g.lab k).bl bc] 64)).cell? ⟨wr.heap.size, 1, none⟩ = some (.bool true) := cN wr.heap.size rfl rfl
              have x2 := cellOn (.cells #[.slice na (g.lab k).nl nc, .bool true, .slice ba (g.lab k).bl bc] 64) y0
              have x3 := cellOn (.cells #[.slice na (g.lab k).nl nc, .bool true, .slice ba (g.lab k).bl bc] 64) y1
              have HNX : Hid (¬ Q' wr.heap.size) := fun q => Nat.lt_irrefl _ (ho.lt _ q)
              have HNG : Hid (¬ Q' w.heap.size) := fun q => by have := (hq' _ q).elim (fun q => q.elim) id; omega
              have hr : (labsT g k).size ≤ 12000000 := by omega
              clear hR hn hb ho hq' hkp hsz hsz2 hq hh
              generalize labsT g k = rt at *
              go_wp2
              generalize wr.alloc (.cells #[.slice na (g.lab k).nl nc, .bool true, .slice ba (g.lab k).bl bc] 64) = X at *
              generalize wr.heap.size = xb at *
              have X0 : Hid (X.cell? ⟨xb, 0, none⟩ = some (.slice na (g.lab k).nl nc)) := x0
              have X1 : Hid (X.cell? ⟨xb, 2, none⟩ = some (.slice ba (g.lab k).bl bc)) := x1
              have X2 : Hid (X.cell? ⟨w.heap.size, 0, none⟩ = some (.slice ra g.nr rc)) := x2
              have X3 : Hid (X.cell? ⟨w.heap.size, 1, none⟩ = some (.slice (some ⟨b, off, none⟩) g.nb lc)) := x3
              have HZ : Hid (∀ W, Keep Q' X W → W.cell? ⟨xb, 0, none⟩ = some (.slice na (g.lab k).nl nc) ∧ W.cell? ⟨xb, 2, none⟩ = some (.slice ba (g.lab k).bl bc) ∧ W.cell? ⟨w.heap.size, 0, none⟩ = some (.slice ra g.nr rc) ∧ W.cell? ⟨w.heap.size, 1, none⟩ = some (.slice (some ⟨b, off, none⟩) g.nb lc)) := fun W hW =>
                ⟨(hW.cell (p := ⟨xb, 0, none⟩) (lt_of_cell X0.out) HNX.out).trans X0.out, (hW.cell (p := ⟨xb, 2, none⟩) (lt_of_cell X1.out) HNX.out).trans X1.out, (hW.cell (p := ⟨w.heap.size, 0, none⟩) (lt_of_cell X2.out) HNG.out).trans X2.out, (hW.cell (p := ⟨w.heap.size, 1, none⟩) (lt_of_cell X3.out) HNG.out).trans X3.out⟩
              have KA : Hid (Keep Q' X (X.drew.alloc (.cells #[.int .u8 94] 5))) := keep_b ((Below.refl _ X).drew.trans (bel1 X.drew _))
              go_region_held3 (fun W' => W'.cell? ⟨xb, 0, none⟩ = some (.slice na (g.lab k).nl nc) ∧ W'.cell? ⟨xb, 2, none⟩ = some (.slice ba (g.lab k).bl bc) ∧ W'.cell? ⟨w.heap.size, 0, none⟩ = some (.slice ra g.nr rc) ∧ W'.cell? ⟨w.heap.size, 1, none⟩ = some (.slice (some ⟨b, off, none⟩) g.nb lc))
                (first | exact HZ.out _ KL.out | exact HZ.out _ KT.out | exact HZ.out _ KW.out | exact HZ.out _ KA.out | exact ⟨x0, x1, x2, x3⟩ | go_keep)
                (first
                  | (refine outS (t := b1 94) rfl (.tmp 36) (.tmp 37) 22 rfl (v := .slice oa rt.size oc) (y := .slice (some ⟨X.heap.size, 0, none⟩) 1 1) (by simp [Act.eval, Act.put]) (by simp [Act.eval, Act.put]) (HGO.out.later ((Below.refl _ X).drew.trans (bel1 X.drew _))) (src_new X.drew (b1 94) 1 1 rfl _ rfl) 12000000 4 hr (by decide) (by omega) (by decide) ?_
                     intro W r' a' c' E1 E2 E3
                     have KW : Hid (Keep Q' X W) := E3.out.keep)
                  | (refine outS (t := b1 94) rfl (.tmp 36) (.tmp 37) 22 rfl (v := .slice oa rt.size oc) (y := .slice (some ⟨X.heap.size, 0, none⟩) 1 1) (by simp [Act.eval, Act.put]) (by simp [Act.eval, Act.put]) (HGO.out.later B2.out) HSRC.out 12000000 4 hr (by decide) (by omega) (by decide) ?_
                     intro W r' a' c' E1 E2 E3
                     have KW : Hid (Keep Q' X W) := E3.out.keep)
                  | (refine outS (t := b1 94) rfl (.tmp 36) (.tmp 37) 22 rfl (v := .slice oa rt.size oc) (y := .slice (some ⟨W2.heap.size, 0, none⟩) 1 1) (by simp [Act.eval, Act.put]) (by simp [Act.eval, Act.put]) (HGO.out.later (bel_tr B2.out (bel1 W2 _))) (src_new W2 (b1 94) 1 1 rfl _ rfl) 12000000 4 hr (by decide) (by omega) (by decide) ?_
                     intro W r' a' c' E1 E2 E3
                     have KW : Hid (Keep Q' X W) := E3.out.keep)
                  | (refine stepCall2 enter52 rfl (.tmp 41) (.tmp 43) 36 58 rfl (y1 := .agg #[.slice ra g.nr rc, .slice (some ⟨b, off, none⟩) g.nb lc]) (y2 := .slice ba (g.lab k).bl bc) (by simp [Act.eval, Act.put]) (by simp [Act.eval, Act.put]) ((HLK.out.tree rc lc bc (W := X.drew) (keep_b (Below.refl _ X).drew)).mono ?_)
                     rintro e W2 ⟨tu, tp, rfl, HVT, hb2⟩
                     have B2 : Hid (Below X.heap.size X W2) := (Below.refl _ X).drew.trans hb2
                     have KT : Hid (Keep Q' X W2) := keep_b B2.out
                     clear hb2
                     refine ⟨_, rfl, ?_⟩)
                  | (refine stepCall2 enter52 rfl (.tmp 41) (.tmp 43) 36 58 rfl (y1 := .agg #[.slice ra g.nr rc, .slice (some ⟨b, off, none⟩) g.nb lc]) (y2 := .slice ba (g.lab k).bl bc) (by simp [Act.eval, Act.put]) (by simp [Act.eval, Act.put]) ((HLK.out.tree rc lc bc (W := X.drew.alloc (.cells #[.int .u8 94] 5)) KA.out).mono ?_)
                     rintro e W2 ⟨tu, tp, rfl, HVT, hb2⟩
                     have B2 : Hid (Below X.heap.size X W2) := ((Below.refl _ X).drew.trans (bel1 X.drew _)).trans (hb2.mono (by simp))
                     have KT : Hid (Keep Q' X W2) := keep_b B2.out
                     have HSRC : Hid (Src Try.prog 1 22 (.slice (some ⟨X.heap.size, 0, none⟩) 1 1) (b1 94).size (bv (b1 94)) W2) := src_kept (w := X.drew) rfl _ rfl rfl hb2
                     clear hb2
                     refine ⟨_, rfl, ?_⟩)
                  | (refine stepCall2 enter52 rfl (.tmp 41) (.tmp 43) 36 58 rfl (y1 := .agg #[.slice ra g.nr rc, .slice (some ⟨b, off, none⟩) g.nb lc]) (y2 := .slice ba (g.lab k).bl bc) (by simp [Act.eval, Act.put]) (by simp [Act.eval, Act.put]) ((HLK.out.tree rc lc bc (W := W) KW.out).mono ?_)
                     rintro e W2 ⟨tu, tp, rfl, HVT, hb2⟩
                     have B3 : Hid (Below W.heap.size W W2) := hb2
                     have KT : Hid (Keep Q' X W2) := (E3.out.later hb2).keep
                     clear hb2
                     refine ⟨_, rfl, ?_⟩)
                  | (refine stepCall3 enter51 rfl (.tmp 38) (.tmp 40) (.tmp 44) 22 22 73 rfl (y1 := .slice a' r'.size c') (y2 := .slice na (g.lab k).nl nc) (y3 := .iface tu tp) (by simp [Act.eval, Act.put]) (by simp [Act.eval, Act.put]) (by simp [Act.eval, Act.put]) ((HLK.out.line nc (by first | exact E3.out.later B3.out | exact E3.out) HVT.out (by have h1 := HLS.out; have h2 := size_eq E1.out; have h3 : (b1 94).size = 1 := rfl; omega)).mono ?_)
                     rintro e W3 ⟨a3, c3, r3, rfl, K1, K2, K3⟩
                     have KL : Hid (Keep Q' X W3) := K3.out.keep
                     refine ⟨_, rfl, ?_⟩))
              all_goals go_goals
              all_goals go_wp2
              all_goals go_roundw
              all_goals first
                | exact ⟨k + 1, by omega, by go_num, by rw [HTX.out, ← E1.out, ← K1.out]; exact newOut_next HLK.out.q HLK.out.bel K3.out⟩
                | (simp [intOf]; omega)
          · obtain rfl : k = g.nb := by omega
            have HNO2 : Hid (NewOut W1 wr _ (labsT g g.nb)) := hno
            go_wp2
            go_ret
            exact ⟨_, rfl, .inl ⟨HV.out, Gone.rebase HNO2.out B1.out⟩⟩

end Go.Proofs.Ytjpcojabdjldbaa
