/-
  Walks: the opening of a body; whether a node must be marked.
-/
import Derived.Test.YtjpcojabdjldbaaOfold
import Derived.Test.YtjpcojabdjldbaaNodes
import Derived.Deep.RegionWith
namespace Go.Proofs.Ytjpcojabdjldbaa
open Go.RowKit
open M (OpD NodeD Gr)
set_option linter.unusedVariables false
set_option linter.unusedSimpArgs false

/-- What the closure answers, in every later world. -/
def ValueOK (w : World) (nr nb : Nat) (mk : NS) (p1 p2 : Value) : Prop :=
  ∀ (o : OpD) (l : List (Nat × Opn)) (W : World) (sa oa : Option Addr) (sc oc : Nat), M.ElemOK nr nb o → Below w.heap.size w W → (∀ p, p ∈ l → p.2.beg.OK) → M.ar o.kind ≤ (l.length : Int) → OperA W oa o l →
    Calls Try.prog 104 #[.agg #[.int .i64 o.kind, .slice sa o.sl sc, .int .i64 o.arg], .slice oa (M.ar o.kind).toNat oc, p1, p2] W (IsOpn (valOf nr mk o l) W)

theorem valO_nul (nr : Nat) (mk : NS) (o : OpD) (x y : Opn) : (valO nr mk o x y).nul = M.fN nr mk.has o x.nul y.nul := by
  unfold valO M.fN
  by_cases h0 : o.kind = 0
  · have hN : ¬ M.Names o := by rintro (q | q) <;> omega
    simp [h0, hN]
  · by_cases hN : M.Names o
    · have h1 : ¬ o.kind = 1 := by rcases hN with q | q <;> omega
      simp [h0, hN, h1]
    · by_cases h1 : o.kind = 1
      · simp [h0, hN, h1]
      · by_cases h4 : o.kind = 4
        · simp [h0, hN, h1, h4]
        · by_cases h5 : o.kind = 5
          · simp [h0, hN, h1, h4, h5]
          · by_cases h6 : o.kind = 6
            · simp [h0, hN, h1, h4, h5, h6]
            · by_cases h7 : o.kind = 7
              · simp [h0, hN, h1, h4, h5, h6, h7]
              · simp [h0, hN, h1, h4, h5, h6, h7]
theorem top_nul (nr : Nat) (mk : NS) (B : Nat → OpD) (n : Nat) : (M.top (M.stk (valO nr mk) B n)).nul = M.nulB nr mk.has n B := by
  unfold M.nulB
  rw [M.stk_map (valO nr mk) (M.fN nr mk.has) Opn.nul rfl (valO_nul nr mk)]
  generalize M.stk (valO nr mk) B n = l
  match l with
  | [] => rfl
  | (s, x) :: r => rfl

set_option maxRecDepth 100000 in
set_option maxHeartbeats 4000000 in
theorem openingOf_any (Q : Nat → Prop) (ra la a : Option Addr) (nr rc nb lc n c : Nat) (B : Nat → OpD) (mk : NS) (w : World) (hB : OpsA Q w a n B) (hok : n = 0 ∨ M.BodyOK nr nb n B) (hn : n ≤ 1048576)
    (hV : ∀ W gb mb, Caught W gb mb ra la nr rc nb lc mk → ValueOK W nr nb mk (.pointer (some ⟨gb, 0, none⟩)) (.pointer (some ⟨mb, 0, none⟩))) :
    Calls Try.prog 68 #[.agg #[.slice ra nr rc, .slice la nb lc], .slice a n c, .agg #[.int .u64 mk.a, .int .u64 mk.b, .int .u64 mk.c, .int .u64 mk.d]] w (IsOpn (M.top (M.stk (valO nr mk) B n)) w) := by
  have HB : Hid (OpsA Q w a n B) := hB
  have HOK : Hid (n = 0 ∨ M.BodyOK nr nb n B) := hok
  have HV : Hid (∀ W gb mb, Caught W gb mb ra la nr rc nb lc mk → ValueOK W nr nb mk (.pointer (some ⟨gb, 0, none⟩)) (.pointer (some ⟨mb, 0, none⟩))) := hV
  clear hB hok hV
  have HC : Hid (Caught (((w.alloc (.cells #[.slice ra nr rc, .slice la nb lc] 36)).alloc (nsc mk)).alloc (ops6 oz)) w.heap.size (w.heap.size + 1) ra la nr rc nb lc mk) := by
    refine ⟨cell_on (cell_on (cN w.heap.size rfl rfl) (bel1 _ _)) (bel1 _ _), cell_on (cell_on (cN w.heap.size rfl rfl) (bel1 _ _)) (bel1 _ _), ?_⟩
    have := At.new (w.alloc (.cells #[.slice ra nr rc, .slice la nb lc] 36)) mk
    rw [World.size_alloc] at this
    exact this.later (bel1 _ _)
  have HR : Hid (At6 (((w.alloc (.cells #[.slice ra nr rc, .slice la nb lc] 36)).alloc (nsc mk)).alloc (ops6 oz)) (w.heap.size + 1 + 1) oz) := by
    have := At6.new ((w.alloc (.cells #[.slice ra nr rc, .slice la nb lc] 36)).alloc (nsc mk)) oz
    rw [World.size_alloc, World.size_alloc] at this
    exact this
  have HX : Hid (Below w.heap.size w (((w.alloc (.cells #[.slice ra nr rc, .slice la nb lc] 36)).alloc (nsc mk)).alloc (ops6 oz))) := bel3 w _ _ _
  go_enter Try.func68, Try.ntmps68
  go_wp2_with fail
  refine (fold_any Q a n c nr nb B mk _ _ _ (HB.out.later HX.out) HOK.out hn (HV.out _ _ _ HC.out)).mono ?_
  rintro e W ⟨rfl, hb⟩
  have BW : Hid (Below w.heap.size w W) := bel_tr HX.out hb
  have RW : Hid (At6 W (w.heap.size + 1 + 1) oz) := HR.out.later hb
  obtain ⟨r0, r1, r2, r3, r4, r5⟩ := RW.out.cells
  obtain ⟨s0, s1, s2, s3, s4, s5⟩ := RW.out.soft
  simp only [oz, nz] at r0 r1 r2 r3 r4 r5
  clear hb HC HR HX
  generalize M.top (M.stk (valO nr mk) B n) = v at *
  unfold opv
  go_wp2
  refine bodyPost_ret (v := opv v) (by simp [results, Try.f68, go_sem, opv, *]) rfl ?_
  exact ⟨rfl, set6_below BW.out (w.heap.size + 1 + 1) v (by omega)⟩

/-- The bodies of all nodes, in one row of slices. -/
def BodsA (Q : Nat → Prop) (w : World) (b : Nat) (g : Gr) (n : Nat) : Prop := ∀ i, i < n → ∃ a c, w.cell? ⟨b, i, none⟩ = some (.slice a (nd g i).bl c) ∧ OpsA Q w a (nd g i).bl (nd g i).body
theorem BodsA.later {Q : Nat → Prop} {w w' : World} {b n : Nat} {g : Gr} (h : BodsA Q w b g n) (k : Below w.heap.size w w') : BodsA Q w' b g n := fun i hi =>
  let ⟨a, c, h1, h2⟩ := h i hi
  ⟨a, c, cell_on h1 k, h2.later k⟩
def NodeOK' (g : Gr) (p : Nat) : Prop := (nd g p).bl = 0 ∨ M.BodyOK g.nr g.nb (nd g p).bl (nd g p).body

set_option maxRecDepth 100000 in
set_option maxHeartbeats 4000000 in
theorem must_any (Q : Nat → Prop) (ra la : Option Addr) (rc lc : Nat) (g : Gr) (gb bb b n cap x : Nat) (S : NS) (W : World) (h0 : W.cell? ⟨gb, 0, none⟩ = some (.slice ra g.nr rc)) (h1 : W.cell? ⟨gb, 1, none⟩ = some (.slice la g.nb lc)) (h2 : W.cell? ⟨bb, 0, none⟩ = some (.slice (some ⟨b, 0, none⟩) n cap)) (hB : BodsA Q W b g n) (hx : x < n) (hn : n ≤ 200)
    (hok : NodeOK' g x) (hsm : (nd g x).bl ≤ 1048576)
    (hV : ∀ W gb mb, Caught W gb mb ra la g.nr rc g.nb lc S → ValueOK W g.nr g.nb S (.pointer (some ⟨gb, 0, none⟩)) (.pointer (some ⟨mb, 0, none⟩))) :
    Calls Try.prog 101 #[.int .i64 (x : Int), .agg #[.int .u64 S.a, .int .u64 S.b, .int .u64 S.c, .int .u64 S.d], .pointer (some ⟨gb, 0, none⟩), .pointer (some ⟨bb, 0, none⟩)] W fun e W' => e = .returned (.bool (M.nulB g.nr S.has (nd g x).bl (nd g x).body)) ∧ Below W.heap.size W W' := by
  obtain ⟨a, c, hc, hO⟩ := hB x hx
  have HO : Hid (OpsA Q W a (nd g x).bl (nd g x).body) := hO
  have HOK : Hid (NodeOK' g x) := hok
  have HV : Hid (∀ W gb mb, Caught W gb mb ra la g.nr rc g.nb lc S → ValueOK W g.nr g.nb S (.pointer (some ⟨gb, 0, none⟩)) (.pointer (some ⟨mb, 0, none⟩))) := hV
  have HB : Hid (Below W.heap.size W (W.alloc (nsc S))) := bel1 W _
  have y0 := cellOn (nsc S) h0
  have y1 := cellOn (nsc S) h1
  have y2 := cellOn (nsc S) h2
  have y3 := cellOn (nsc S) hc
  obtain ⟨m0, m1, m2, m3⟩ := (At.new W S).cells
  have hfl : ∀ (n l : Bool) (a b c d : Int) (w : World), (Instr.field 95 (.agg #[.bool n, .int .u64 a, .int .u64 b, .int .u64 c, .int .u64 d, .bool l]) 0).run Try.prog w = .ok (.bool n) w := fun n l a b c d w => by kernel_rfl
  clear hO hB hok hV
  go_enter Try.func101, Try.ntmps101
  go_wp2
  rw [show (Obj.cells #[.int .u64 S.a, .int .u64 S.b, .int .u64 S.c, .int .u64 S.d] 85) = nsc S from rfl]
  generalize W.alloc (nsc S) = X at *
  go_region_with (go_at_call 68; refine (openingOf_any Q ra la a g.nr rc g.nb lc (nd g x).bl c (nd g x).body S _ (HO.out.later HB.out.drew) HOK.out hsm HV.out).mono ?_; rintro e W2 ⟨rfl, hb2⟩; have B2 : Hid (Below W.heap.size W W2) := bel_tr HB.out ((Below.refl _ X).drew.trans hb2); clear hb2; unfold opv)
  all_goals go_wp2
  all_goals go_ret
  all_goals exact ⟨ret_bool (top_nul _ _ _ _), B2.out⟩

end Go.Proofs.Ytjpcojabdjldbaa
