import Derived.Test.YtjpcojabdjldbaaVals
import Derived.Test.YtjpcojabdjldbaaLefts

/-
  What Check answers, in terms of the openings of the nodes' bodies.
-/
namespace Go.Proofs.Ytjpcojabdjldbaa
open Go.RowKit
open M (OpD NodeD Gr)
set_option linter.unusedVariables false
set_option linter.unusedSimpArgs false

/-- The set of the marks below k. -/
def nsOf (f : Nat → Bool) : Nat → NS
  | 0 => nz
  | k + 1 => if f k then (nsOf f k).put k else nsOf f k
theorem nsOf_ok (f : Nat → Bool) (k : Nat) : (nsOf f k).OK := by
  induction k with
  | zero => exact NS.OK.zero
  | succ k ih => rw [nsOf]; split; exact ih.put k; exact ih
theorem nsOf_has (f : Nat → Bool) (k v : Nat) (hk : k ≤ 256) (hv : v < 256) : (nsOf f k).has v = (decide (v < k) && f v) := by
  induction k with
  | zero => rw [nsOf, nz_has]; simp
  | succ k ih =>
    rw [nsOf]
    by_cases e : f k = true
    · rw [if_pos e, put_has _ _ _ (by omega) hv, ih (by omega)]
      by_cases q : v = k
      · subst q; simp [e]
      · have : (v < k + 1) = (v < k) := by rw [eq_iff_iff]; omega
        simp [q, this]
    · rw [if_neg e, ih (by omega)]
      by_cases q : v = k
      · subst q; simp at e; simp [e]
      · have : (v < k + 1) = (v < k) := by rw [eq_iff_iff]; omega
        simp [this]

def opnOf (g : Gr) (S : NS) (p : Nat) : Opn := M.top (M.stk (valO g.nr S) (nd g p).body (nd g p).bl)
theorem valO_congr {nr : Nat} {S S' : NS} {o : OpD} (h : M.Names o → S.has (M.tg nr o) = S'.has (M.tg nr o)) (x y : Opn) : valO nr S o x y = valO nr S' o x y := by
  unfold valO
  by_cases e : M.Names o
  · rw [h e]
  · simp [e]
theorem opnOf_congr {g : Gr} {S S' : NS} {p : Nat} (hp : NodeOK g p) (h : ∀ v, v < g.nr + g.nb → S.has v = S'.has v) : opnOf g S p = opnOf g S' p := by
  unfold opnOf
  rw [M.stk_congr (valO g.nr S) (valO g.nr S')]
  intro j hj x y
  exact valO_congr (fun hn => h _ (uses_lt hp ⟨j, hj, hn, rfl⟩)) x y

theorem has_big (s : NS) (u : Nat) (h : 256 ≤ u) : s.has u = false := by
  unfold NS.has NS.w
  rw [if_neg (by omega), if_neg (by omega), if_neg (by omega), if_neg (by omega)]
  simp
/-- The nodes that an expression begins with lie below T. -/
def BegLt (T : Nat) (x : Opn) : Prop := x.beg.OK ∧ ∀ u, x.beg.has u = true → u < T
theorem BegLt.dflt (T : Nat) : BegLt T default := ⟨NS.OK.zero, fun u h => by rw [show (default : Opn).beg = nz from rfl, nz_has] at h; cases h⟩
theorem valO_lt {T nr : Nat} {S : NS} {o : OpD} {x y : Opn} (hT : T ≤ 256) (hn : M.Names o → M.tg nr o < T) (hx : BegLt T x) (hy : BegLt T y) : BegLt T (valO nr S o x y) := by
  refine ⟨valO_ok nr S o x y hx.1 hy.1, fun u hu => ?_⟩
  have zero : nz.has u = true → u < T := fun q => by rw [nz_has] at q; cases q
  have jn : (x.beg.join y.beg).has u = true → u < T := fun q => by
    rw [join_has, Bool.or_eq_true] at q
    rcases q with q | q
    · exact hx.2 u q
    · exact hy.2 u q
  unfold valO at hu
  split at hu
  · exact zero hu
  · split at hu
    · rename_i hN
      by_cases hb : 256 ≤ u
      · rw [has_big _ u hb] at hu; cases hu
      · have ht := hn hN
        simp only at hu
        rw [put_has _ _ _ (by omega) (by omega), nz_has] at hu
        simp at hu
        omega
    · split at hu
      · simp only at hu
        split at hu
        · exact jn hu
        · exact hx.2 u hu
      · split at hu
        · exact jn hu
        · split at hu
          · exact hx.2 u hu
          · split at hu
            · exact hx.2 u hu
            · exact zero hu
theorem stk_lt {T nr : Nat} {S : NS} {B : Nat → OpD} (hT : T ≤ 256) (i : Nat) (h : ∀ j, j < i → M.Names (B j) → M.tg nr (B j) < T) : ∀ p, p ∈ M.stk (valO nr S) B i → BegLt T p.2 := by
  induction i with
  | zero => intro p hp; simp [M.stk] at hp
  | succ i ih =>
    have I := ih (fun j hj => h j (by omega))
    have hi := h i (by omega)
    intro p hp
    rw [M.stk] at hp
    generalize M.stk (valO nr S) B i = l at *
    unfold M.stp at hp
    split at hp
    · match l, I, hp with
      | [], _, hp => simp at hp
      | [(a, x)], _, hp => simp at hp
      | (a, x) :: (b, y) :: r, I, hp =>
        simp at hp
        rcases hp with rfl | hp
        · exact valO_lt hT hi (I (b, y) (by simp)) (I (a, x) (by simp))
        · exact I p (by simp [hp])
    · split at hp
      · match l, I, hp with
        | [], _, hp => simp at hp
        | (a, x) :: r, I, hp =>
          simp at hp
          rcases hp with rfl | hp
          · exact valO_lt hT hi (I (a, x) (by simp)) (BegLt.dflt T)
          · exact I p (by simp [hp])
      · simp at hp
        rcases hp with rfl | hp
        · exact valO_lt hT hi (BegLt.dflt T) (BegLt.dflt T)
        · exact I p hp
theorem top_lt {T : Nat} {l : List (Nat × Opn)} (h : ∀ p, p ∈ l → BegLt T p.2) : BegLt T (M.top l) := by
  match l, h with
  | [], _ => exact BegLt.dflt T
  | (s, x) :: r, h => exact h (s, x) (by simp)

def mk0 (g : Gr) : Nat → Bool := M.rnd (nullF g) (g.nr + g.nb)
def S0 (g : Gr) : NS := nsOf (mk0 g) (g.nr + g.nb)
/-- What each node begins with. -/
def UB (g : Gr) (p : Nat) : NS := if p < g.nr + g.nb then (opnOf g (S0 g) p).beg else nz
def LB (g : Gr) (p : Nat) : Prop := M.Pk (RU (UB g)) (g.nr + g.nb) p p
def OB (g : Gr) (p : Nat) : Prop := (opnOf g (S0 g) p).loop = true
theorem S0_has {g : Gr} (hV : M.Valid g) {v : Nat} (hv : v < g.nr + g.nb) : (S0 g).has v = mk0 g v := by
  have := hV.r2
  have := hV.l2
  unfold S0
  rw [nsOf_has _ _ _ (by omega) (by omega)]
  simp [hv]
theorem opn_lt {g : Gr} (hV : M.Valid g) (S : NS) {p : Nat} (hp : p < g.nr + g.nb) : BegLt (g.nr + g.nb) (opnOf g S p) := by
  have := hV.r2
  have := hV.l2
  exact top_lt (stk_lt (by omega) _ (fun j hj hn => uses_lt (valid_node hV hp) ⟨j, hj, hn, rfl⟩))
theorem UB_ok {g : Gr} (hV : M.Valid g) (p : Nat) : (UB g p).OK := by
  unfold UB
  split
  · rename_i hp; exact (opn_lt hV _ hp).1
  · exact NS.OK.zero
theorem UB_within {g : Gr} (hV : M.Valid g) : M.Within (RU (UB g)) (g.nr + g.nb) := fun i j h => by
  unfold RU UB at h
  split at h
  · rename_i hp; exact (opn_lt hV _ hp).2 j h
  · rw [nz_has] at h; cases h
/-- The answer. -/
inductive Ans (g : Gr) : Int → Int → Prop
  | bad : ¬ M.Valid g → Ans g 4 0
  | ok {a b : Int} : M.Valid g → M.Chk (g.nr + g.nb) (LB g) (OB g) a b → Ans g a b
theorem Ans.unique {g : Gr} {a b a' b' : Int} (h : Ans g a b) (h' : Ans g a' b') : a = a' ∧ b = b' := by
  cases h with
  | bad h =>
    cases h' with
    | bad _ => exact ⟨rfl, rfl⟩
    | ok k _ => exact absurd k h
  | ok h h2 =>
    cases h' with
    | bad k => exact absurd h k
    | ok _ k2 => exact h2.unique k2
/-- What Check returns. -/
structure ChkIs (g : Gr) (w : World) (e : Ending) (w' : World) : Prop where
  val : ∃ a b, Ans g a b ∧ e = .returned (.tuple #[.int .i64 a, .int .i64 b])
  bel : Below w.heap.size w w'

theorem valO_loop (nr : Nat) (S : NS) (o : OpD) (x y : Opn) : (valO nr S o x y).loop = (if o.kind = 6 then x.nul || x.loop else if M.ar o.kind = 2 then x.loop || y.loop else if M.ar o.kind = 1 then x.loop else false) := by
  unfold valO
  by_cases h0 : o.kind = 0
  · rw [if_pos h0, if_neg (show ¬ o.kind = 6 by omega), h0]; rfl
  · rw [if_neg h0]
    by_cases hN : M.Names o
    · rw [if_pos hN]
      rcases hN with e | e <;> rw [e] <;> rfl
    · rw [if_neg hN]
      by_cases h4 : o.kind = 4
      · rw [if_pos h4, if_neg (show ¬ o.kind = 6 by omega), h4]; rfl
      · rw [if_neg h4]
        by_cases h5 : o.kind = 5
        · rw [if_pos h5, if_neg (show ¬ o.kind = 6 by omega), h5]; rfl
        · rw [if_neg h5]
          by_cases h6 : o.kind = 6
          · rw [if_pos h6, if_pos h6]
          · rw [if_neg h6, if_neg h6]
            by_cases h7 : o.kind = 7
            · rw [if_pos h7, h7]; rfl
            · rw [if_neg h7]
              have h2 : ¬ M.ar o.kind = 2 := by unfold M.ar; split; omega; split <;> omega
              have h1 : ¬ M.ar o.kind = 1 := by unfold M.ar; split; omega; split; omega; omega
              rw [if_neg h2, if_neg h1]

end Go.Proofs.Ytjpcojabdjldbaa

/-
  Walks: the program's Check.
-/
namespace Go.Proofs.Ytjpcojabdjldbaa
open Go.RowKit
open M (OpD NodeD Gr)
set_option linter.unusedVariables false
set_option linter.unusedSimpArgs false

/-- The smallest node below k that repeats what is nullable, or none. -/
inductive Lp (O : Nat → Prop) (k : Nat) : Int → Prop
  | none : (∀ q, q < k → ¬ O q) → Lp O k (-1)
  | some (p : Nat) : p < k → O p → (∀ q, q < p → ¬ O q) → Lp O k p
theorem Lp.skip {O : Nat → Prop} {k : Nat} {l : Int} (h : Lp O k l) (n : ¬ (O k ∧ l < 0)) : Lp O (k + 1) l := by
  cases h with
  | none h => exact .none (fun q hq => if e : q = k then (fun o => n ⟨e ▸ o, by decide⟩) else h q (by omega))
  | some p h1 h2 h3 => exact .some p (by omega) h2 h3
theorem Lp.put {O : Nat → Prop} {k : Nat} {l : Int} (h : Lp O k l) (n : O k) (hl : l < 0) : Lp O (k + 1) k := by
  cases h with
  | none h => exact .some k (by omega) n h
  | some p h1 h2 h3 => omega
def chI (W1 : World) (bb n : Nat) (g : Gr) (lv iv : Value) (wr : World) : Prop :=
  ∃ (k : Nat) (l : Int), k ≤ n ∧ iv = .int .i64 (k : Int) ∧ lv = .int .i64 l ∧ Lp (OB g) k l ∧ Row wr bb 85 (n * 4) ∧ SetsA wr bb 0 k (UB g) ∧ Below bb W1 wr

set_option maxRecDepth 100000 in
set_option maxHeartbeats 8000000 in
theorem check_any (Q : Nat → Prop) (ra la : Option Addr) (rc lc : Nat) (g : Gr) (w : World) (hG : GramA Q w ra la g) (hs : SmallG g) (hval : M.Valid g → ValuesOK ra la g rc lc) :
    Calls Try.prog 32 #[.agg #[.slice ra g.nr rc, .slice la g.nb lc]] w (ChkIs g w) := by
  have HG : Hid (GramA Q w ra la g) := hG
  have HS : Hid (SmallG g) := hs
  have HVAL : Hid (M.Valid g → ValuesOK ra la g rc lc) := hval
  clear hG hs hval
  go_enter Try.func32, Try.ntmps32
  go_wp2_with fail
  refine (validGrammar_any Q ra la rc lc g _ (HG.out.later (bel1 w _)) HS.out).mono ?_
  rintro e W1 ⟨⟨r, rfl, hr⟩, hb⟩
  have g0 := cell_on (a := ⟨w.heap.size, 0, none⟩) (v := .slice ra g.nr rc) (cN w.heap.size rfl rfl) hb
  have g1 := cell_on (a := ⟨w.heap.size, 1, none⟩) (v := .slice la g.nb lc) (cN w.heap.size rfl rfl) hb
  have B1 : Hid (Below w.heap.size w W1) := bel_tr (bel1 w _) hb
  clear hb
  cases r with
  | false =>
    have HV : Hid (¬ M.Valid g) := fun q => absurd (hr.2 q) (by decide)
    clear hr
    go_wp2
    refine bodyPost_ret (by simp [results, Try.f32, go_sem]; rfl) rfl ?_
    exact ⟨⟨4, 0, .bad HV.out, rfl⟩, B1.out⟩
  | true =>
    have HV : Hid (M.Valid g) := hr.1 rfl
    clear hr
    have h1 := HV.out.r2
    have h2 := HV.out.l2
    have h0 := HV.out.r1
    go_wp2_with fail
    refine (bodiesOf_any Q ra la rc lc g _ (HG.out.later B1.out) h0 h1 h2).mono ?_
    rintro e W2 ⟨⟨b, cap, rfl, hB⟩, hb⟩
    replace g0 := cell_on g0 hb
    replace g1 := cell_on g1 hb
    have B2 : Hid (Below w.heap.size w W2) := bel_tr B1.out hb
    have HB : Hid (BodsA Q W2 b g (g.nr + g.nb)) := hB
    clear hb hB
    obtain ⟨n, hn⟩ : ∃ n, g.nr + g.nb = n := ⟨_, rfl⟩
    have HN : Hid (g.nr + g.nb = n) := hn
    rw [hn] at HB
    rw [hn]
    have hn2 : n ≤ 200 := by omega
    have hn1 : 0 < n := by omega
    clear hn
    go_wp2_with fail
    refine (nullableNodes_any Q ra la rc lc g b n cap _ HV.out (nd_small HS.out) HN.out HB.out (HVAL.out HV.out)).mono ?_
    rintro e W3 ⟨⟨S, hS, hL, rfl⟩, hb⟩
    replace g0 := cell_on g0 hb
    replace g1 := cell_on g1 hb
    have B3 : Hid (Below w.heap.size w W3) := bel_tr B2.out hb
    have HSS : Hid S.OK := hS
    have HEQ : Hid (∀ p, p < n → opnOf g S p = opnOf g (S0 g) p) := fun p hp => opnOf_congr (valid_node HV.out (by have := HN.out; omega)) (fun v hv => by
      rw [S0_has HV.out hv]
      exact hL.unique (M.rnd_least (nullF_mono HV.out)) v hv)
    have HB3 : Hid (BodsA Q W3 b g n) := HB.out.later hb
    have s3 : w.heap.size < W3.heap.size := lt_of_cell g0
    clear hb hL hS
    have hmk := make85 n hn2
    have A4 : Hid (At (W3.alloc (nsc S)) W3.heap.size S) := At.new W3 S
    have s4 : Hid ((W3.alloc (nsc S)).heap.size = W3.heap.size + 1) := by show _ = _; simp
    go_wp2
    rw [show (Obj.cells #[.int .u64 S.a, .int .u64 S.b, .int .u64 S.c, .int .u64 S.d] 85) = nsc S from rfl]
    have k0 : ((W3.alloc (nsc S)).alloc (.cells (madeCells #[.int .u64 0, .int .u64 0, .int .u64 0, .int .u64 0] (n * 4)) 85)).cell? ⟨w.heap.size, 0, none⟩ = some (.slice ra g.nr rc) := cellOn _ (cellOn _ g0)
    have k1 : ((W3.alloc (nsc S)).alloc (.cells (madeCells #[.int .u64 0, .int .u64 0, .int .u64 0, .int .u64 0] (n * 4)) 85)).cell? ⟨w.heap.size, 1, none⟩ = some (.slice la g.nb lc) := cellOn _ (cellOn _ g1)
    have A5 : Hid (At ((W3.alloc (nsc S)).alloc (.cells (madeCells #[.int .u64 0, .int .u64 0, .int .u64 0, .int .u64 0] (n * 4)) 85)) W3.heap.size S) := A4.out.later (bel1 _ _)
    have R5 : Hid (Row ((W3.alloc (nsc S)).alloc (.cells (madeCells #[.int .u64 0, .int .u64 0, .int .u64 0, .int .u64 0] (n * 4)) 85)) (W3.heap.size + 1) 85 (n * 4)) := by
      have := row_made (W3.alloc (nsc S)) #[.int .u64 0, .int .u64 0, .int .u64 0, .int .u64 0] (n * 4) 85 (by simp)
      rw [s4.out] at this
      exact this
    have BB5 : Hid (Below W3.heap.size W3 ((W3.alloc (nsc S)).alloc (.cells (madeCells #[.int .u64 0, .int .u64 0, .int .u64 0, .int .u64 0] (n * 4)) 85))) := bel2 W3 _ _
    generalize (W3.alloc (nsc S)).alloc (.cells (madeCells #[.int .u64 0, .int .u64 0, .int .u64 0, .int .u64 0] (n * 4)) 85) = W5 at *
    have HB5 : Hid (BodsA Q W5 b g n) := HB3.out.later BB5.out
    have B5 : Hid (Below w.heap.size w W5) := bel_tr B3.out BB5.out
    have hbw : b < W3.heap.size := by obtain ⟨a, c, hc, _⟩ := HB3.out 0 hn1; exact lt_of_cell hc
    obtain ⟨sb, hsb⟩ : ∃ x, W3.heap.size = x := ⟨_, rfl⟩
    rw [hsb] at A5 R5 hbw s3
    have HSB : Hid (W3.heap.size = sb) := hsb
    clear A4 s4 hmk HB HB5 g0 g1
    rw [hsb]
    clear hsb
    go_loopw [7, 25] (fun lv iv wr => chI W5 (sb + 1) n g lv iv wr) (fun _ iv _ => n - (intOf iv).toNat)
    case atStart => exact ⟨0, -1, Nat.zero_le _, rfl, rfl, .none (fun q hq => absurd hq (Nat.not_lt_zero _)), R5.out, fun j hj => absurd hj (Nat.not_lt_zero _), Below.refl _ _⟩
    case round =>
      obtain ⟨k, l, hk, rfl, rfl, hlp, hrow, hset, hbel⟩ := hrel
      have HROW : Hid (Row wr (sb + 1) 85 (n * 4)) := hrow
      have HSET : Hid (SetsA wr (sb + 1) 0 k (UB g)) := hset
      have HBE : Hid (Below (sb + 1) W5 wr) := hbel
      have HLP : Hid (Lp (OB g) k l) := hlp
      have AS : Hid (At wr sb S) := A5.out.keep (hbel.block _ (by omega))
      have HBW : Hid (Below w.heap.size w wr) := B5.out.trans (hbel.mono (by omega))
      have j0 : wr.cell? ⟨w.heap.size, 0, none⟩ = some (.slice ra g.nr rc) := (hbel.cell (p := ⟨w.heap.size, 0, none⟩) (show w.heap.size < sb + 1 by omega)).trans k0
      have j1 : wr.cell? ⟨w.heap.size, 1, none⟩ = some (.slice la g.nb lc) := (hbel.cell (p := ⟨w.heap.size, 1, none⟩) (show w.heap.size < sb + 1 by omega)).trans k1
      obtain ⟨m0, m1, m2, m3⟩ := AS.out.cells
      have ls := AS.out.lt
      clear hrow hset hbel hlp
      by_cases hlt : k < n
      · obtain ⟨a, c, hcb, hO⟩ := (HB3.out.later (BB5.out.trans (HBE.out.mono (by have := HSB.out; omega)))) k hlt
        have HO : Hid (OpsA Q wr a (nd g k).bl (nd g k).body) := hO
        have lrow : sb + 1 < wr.heap.size := by obtain ⟨u, hu⟩ := HROW.out.cell (i := 0) (by omega); exact lt_of_cell hu
        have lbk : b < wr.heap.size := by omega
        clear hO
        go_wp2_with fail
        refine (openingOf_any Q ra la a g.nr rc g.nb lc (nd g k).bl c (nd g k).body S _ HO.out (valid_node HV.out (by have := HN.out; omega)) (nd_small HS.out k (by have := HN.out; omega)) (HVAL.out HV.out S HSS.out)).mono ?_
        rintro e W ⟨rfl, hb⟩
        have HOP : Hid (M.top (M.stk (valO g.nr S) (nd g k).body (nd g k).bl) = opnOf g (S0 g) k) := HEQ.out k hlt
        have B6 : Hid (Below wr.heap.size wr W) := hb
        have RW : Hid (Row W (sb + 1) 85 (n * 4)) := HROW.out.of_block (hb.block _ lrow)
        obtain ⟨u0, r0⟩ := RW.out.cell (i := k * 4) (by omega)
        obtain ⟨u1, r1⟩ := RW.out.cell (i := k * 4 + 1) (by omega)
        obtain ⟨u2, r2⟩ := RW.out.cell (i := k * 4 + 2) (by omega)
        obtain ⟨u3, r3⟩ := RW.out.cell (i := k * 4 + 3) (by omega)
        have z0 := RW.out.frozen (k * 4)
        have z1 := RW.out.frozen (k * 4 + 1)
        have z2 := RW.out.frozen (k * 4 + 2)
        have z3 := RW.out.frozen (k * 4 + 3)
        have lrow2 : sb + 1 < W.heap.size := lt_of_cell r0
        clear hb
        generalize M.top (M.stk (valO g.nr S) (nd g k).body (nd g k).bl) = v at *
        unfold opv
        have rel : ∀ (l' x : Int) (o : Obj), x = ((k + 1 : Nat) : Int) → Lp (OB g) (k + 1) l' → chI W5 (sb + 1) n g (.int .i64 l') (.int .i64 x) (((((W.setCell ⟨sb + 1, k * 4, none⟩ (.int .u64 v.beg.a)).setCell ⟨sb + 1, k * 4 + 1, none⟩ (.int .u64 v.beg.b)).setCell ⟨sb + 1, k * 4 + 2, none⟩ (.int .u64 v.beg.c)).setCell ⟨sb + 1, k * 4 + 3, none⟩ (.int .u64 v.beg.d)).alloc o) := fun l' x o hx hl' => by
          show chI W5 (sb + 1) n g (.int .i64 l') (.int .i64 x) ((put4 W (sb + 1) (k * 4) v.beg).alloc o)
          have RP : Row (put4 W (sb + 1) (k * 4) v.beg) (sb + 1) 85 (n * 4) := put4_row RW.out
          have BP : Below (sb + 1) W5 (put4 W (sb + 1) (k * 4) v.beg) := put4_below (HBE.out.trans (B6.out.mono (by omega))) _ _ _ (Nat.le_refl _)
          have sP : (put4 W (sb + 1) (k * 4) v.beg).heap.size = W.heap.size := by unfold put4; simp only [size_set]
          refine ⟨k + 1, l', by omega, by rw [hx], rfl, hl', RP.of_block (Below.heap_alloc _ _ _ (by omega)), fun j hj => ?_, BP.alloc (by omega) _⟩
          have key : ∀ q : Nat, ∀ u, (put4 W (sb + 1) (k * 4) v.beg).cell? ⟨sb + 1, q, none⟩ = some u → ((put4 W (sb + 1) (k * 4) v.beg).alloc o).cell? ⟨sb + 1, q, none⟩ = some u := fun q u h => cellOn _ h
          by_cases e : j = k
          · subst e
            obtain ⟨p0, p1, p2, p3⟩ := put4_cells (s := v.beg) RW.out (o := j * 4) (by omega)
            have hu : UB g j = v.beg := by unfold UB; rw [if_pos (by have := HN.out; omega), HOP.out]
            rw [hu]
            simp only [Nat.zero_add]
            exact ⟨key _ _ p0, key _ _ p1, key _ _ p2, key _ _ p3⟩
          · obtain ⟨q0, q1, q2, q3⟩ := (HSET.out.later B6.out) j (by omega)
            exact ⟨key _ _ ((put4_other (by omega)).trans q0), key _ _ ((put4_other (by omega)).trans q1), key _ _ ((put4_other (by omega)).trans q2), key _ _ ((put4_other (by omega)).trans q3)⟩
        have REL : Hid (∀ (l' x : Int) (o : Obj), x = ((k + 1 : Nat) : Int) → Lp (OB g) (k + 1) l' → chI W5 (sb + 1) n g (.int .i64 l') (.int .i64 x) (((((W.setCell ⟨sb + 1, k * 4, none⟩ (.int .u64 v.beg.a)).setCell ⟨sb + 1, k * 4 + 1, none⟩ (.int .u64 v.beg.b)).setCell ⟨sb + 1, k * 4 + 2, none⟩ (.int .u64 v.beg.c)).setCell ⟨sb + 1, k * 4 + 3, none⟩ (.int .u64 v.beg.d)).alloc o)) := rel
        clear rel
        by_cases hl : v.loop = true
        · have HOB : Hid (OB g k) := by show _ = _; rw [← HOP.out]; exact hl
          by_cases hneg : l < 0
          · have HNEG : Hid (l < 0) := hneg
            go_wp2
            go_roundw
            case rel => exact REL.out _ _ _ (by omega) (HLP.out.put HOB.out HNEG.out)
            case measure => simp [intOf]; omega
          · have HNEG : Hid (¬ l < 0) := hneg
            go_wp2
            go_roundw
            case rel => exact REL.out _ _ _ (by omega) (HLP.out.skip (fun q => by have h8 := HNEG.out; have h9 := q.2; omega))
            case measure => simp [intOf]; omega
        · have hl2 : v.loop = false := by simpa using hl
          have HNB : Hid (¬ OB g k) := by show ¬ (_ = _); rw [← HOP.out]; exact hl
          clear hl
          go_wp2
          go_roundw
          case rel => exact REL.out _ _ _ (by omega) (HLP.out.skip (fun q => HNB.out q.1))
          case measure => simp [intOf]; omega
      · obtain rfl : k = n := by omega
        have HW : Hid (M.Within (RU (UB g)) k) := HN.out ▸ UB_within HV.out
        go_wp2_with fail
        refine (leftRecursive_any (sb + 1) 0 k k (UB g) _ HSET.out (fun i _ => UB_ok HV.out i) hn1 hn2 HW.out).mono ?_
        rintro e W6 ⟨hval, hb⟩
        have B6 : Hid (Below w.heap.size w W6) := bel_tr HBW.out hb
        clear hb
        rcases hval with ⟨p, hp, hLp, hmin, rfl⟩ | ⟨hno, rfl⟩
        · have HA : Hid (Ans g 8 p) := .ok HV.out (by rw [HN.out]; exact .left p hp (by unfold LB; rw [HN.out]; exact hLp) (fun q hq h => hmin q hq (by unfold LB at h; rw [HN.out] at h; exact h)))
          clear hLp hmin
          go_wp2
          refine bodyPost_ret (by simp [results, Try.f32, go_sem]; rfl) rfl ?_
          exact ⟨⟨8, p, HA.out, rfl⟩, B6.out⟩
        · have HNL : Hid (∀ q, q < g.nr + g.nb → ¬ LB g q) := fun q hq h => hno q (by have := HN.out; omega) (by unfold LB at h; rw [HN.out] at h; exact h)
          clear hno
          rcases HLP.out with hO | ⟨p, hp, hOp, hmin⟩
          · have HA : Hid (Ans g 0 0) := .ok HV.out (.fine HNL.out (fun q hq => hO q (by have := HN.out; omega)))
            clear hO
            go_wp2
            refine bodyPost_ret (by simp [results, Try.f32, go_sem]; rfl) rfl ?_
            exact ⟨⟨0, 0, HA.out, rfl⟩, B6.out⟩
          · have HA : Hid (Ans g 9 p) := .ok HV.out (.loop p HNL.out (by have := HN.out; omega) hOp hmin)
            clear hOp hmin
            go_wp2
            refine bodyPost_ret (by simp [results, Try.f32, go_sem]; rfl) rfl ?_
            exact ⟨⟨9, p, HA.out, rfl⟩, B6.out⟩

end Go.Proofs.Ytjpcojabdjldbaa
