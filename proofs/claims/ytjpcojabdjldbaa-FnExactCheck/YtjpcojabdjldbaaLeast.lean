/-
  Walks: the least marks.
-/
import Derived.Test.YtjpcojabdjldbaaWork
import Derived.Test.YtjpcojabdjldbaaMeans
namespace Go.Proofs.Ytjpcojabdjldbaa
open Go.RowKit
open M (OpD NodeD Gr)
set_option linter.unusedVariables false
set_option linter.unusedSimpArgs false

theorem nsc_inj {s t : NS} (h : nsc s = nsc t) : s = t := by
  unfold nsc at h
  simp at h
  obtain ⟨h1, h2, h3, h4⟩ := h
  cases s
  cases t
  simp only at h1 h2 h3 h4
  have e1 := Int.ofNat_inj.1 h1
  have e2 := Int.ofNat_inj.1 h2
  have e3 := Int.ofNat_inj.1 h3
  have e4 := Int.ofNat_inj.1 h4
  rw [e1, e2, e3, e4]
theorem At.unique {w : World} {b : Nat} {s t : NS} (h : At w b s) (k : At w b t) : s = t := by
  unfold At at h k
  rw [h] at k
  exact nsc_inj (Option.some.inj k)
def natAt (v : Option Value) : Nat := match v with | some (.int _ x) => x.toNat | _ => 0
/-- The set that a block holds. -/
def nsAt (w : World) (b : Nat) : NS := ⟨natAt (w.cell? ⟨b, 0, none⟩), natAt (w.cell? ⟨b, 1, none⟩), natAt (w.cell? ⟨b, 2, none⟩), natAt (w.cell? ⟨b, 3, none⟩)⟩
theorem nsAt_eq {w : World} {b : Nat} {s : NS} (h : At w b s) : nsAt w b = s := by
  obtain ⟨h0, h1, h2, h3⟩ := h.cells
  unfold nsAt
  rw [h0, h1, h2, h3]
  rfl
def lenAt (w : World) (b : Nat) : Nat := match w.cell? ⟨b, 0, none⟩ with | some (.slice _ n _) => n | _ => 0
theorem lenAt_eq {Q : Nat → Prop} {w : World} {b : Nat} {L : List Nat} (h : WL Q w b L) : lenAt w b = L.length := by
  obtain ⟨v, h1, h2⟩ := h.val
  obtain ⟨a, c, rfl⟩ := own_shape h2
  unfold lenAt
  rw [h1]
def oneOf (v : Value) : Nat := match v with | .bool true => 1 | _ => 0

/-- A slice of sets. -/
def SetsA (w : World) (b o n : Nat) (U : Nat → NS) : Prop := ∀ i, i < n → w.cell? ⟨b, o + i * 4, none⟩ = some (.int .u64 (U i).a) ∧ w.cell? ⟨b, o + i * 4 + 1, none⟩ = some (.int .u64 (U i).b) ∧ w.cell? ⟨b, o + i * 4 + 2, none⟩ = some (.int .u64 (U i).c) ∧ w.cell? ⟨b, o + i * 4 + 3, none⟩ = some (.int .u64 (U i).d)
theorem SetsA.later {w w' : World} {b o n : Nat} {U : Nat → NS} (h : SetsA w b o n U) (k : Below w.heap.size w w') : SetsA w' b o n U := fun i hi =>
  ⟨cell_on (h i hi).1 k, cell_on (h i hi).2.1 k, cell_on (h i hi).2.2.1 k, cell_on (h i hi).2.2.2 k⟩

theorem has_ag (s : NS) (p : Nat) (w : World) (hs : s.OK) (hp : p < 256) :
    Calls Try.prog 63 #[.agg #[.int .u64 s.a, .int .u64 s.b, .int .u64 s.c, .int .u64 s.d], .int .i64 p] w fun e w' => e = .returned (.bool (s.has p)) ∧ Below w.heap.size w w' :=
  (has_any s p w hs hp).mono (fun e w' h => ⟨h.1, by rw [h.2]; exact bel1 w _⟩)

/-- Blocks of the list: behind the two boxes, and not the marks' own. -/
def Qm (w : World) (mb : Nat) (b : Nat) : Prop := w.heap.size + 1 < b ∧ b ≠ mb

def lmI1 (w : World) (n : Nat) (iv : Value) (wr : World) : Prop :=
  ∃ k : Nat, k ≤ n ∧ iv = .int .i64 (k : Int) ∧ WL (fun b => w.heap.size + 1 < b) wr (w.heap.size + 1) (List.range k) ∧ At wr w.heap.size nz ∧ Below w.heap.size w wr

def lmI (w : World) (n mb : Nat) (F : (Nat → Bool) → Nat → Bool) (nv sv : Value) (wr : World) : Prop :=
  ∃ (L : List Nat) (S : NS), S.OK ∧ WL (Qm w mb) wr (w.heap.size + 1) L ∧ At wr w.heap.size nz ∧ At wr mb S ∧ w.heap.size + 1 < mb ∧ Below w.heap.size w wr ∧
    ((sv = .bool false ∧ (∃ x : Int, nv = .int .i64 x) ∧ L = [] ∧ M.WI n F [] S.has) ∨ (∃ x : Nat, sv = .bool true ∧ nv = .int .i64 (x : Int) ∧ M.WI n F (L ++ [x]) S.has ∧ M.left n S.has (L.length + 1) ≤ n * (n + 1) + n))
def lmI3 (w : World) (n mb x : Nat) (U : Nat → NS) (S : NS) (L : List Nat) (iv : Value) (wr : World) : Prop :=
  ∃ k : Nat, k ≤ n ∧ iv = .int .i64 (k : Int) ∧ WL (Qm w mb) wr (w.heap.size + 1) (L ++ M.users (fun v y => (U v).has y) x k) ∧ At wr w.heap.size nz ∧ At wr mb S ∧ Below w.heap.size w wr

theorem grew_below {Q : Nat → Prop} {B : Nat} {w w' : World} (h : Grew Q w w') (hB : B ≤ w.heap.size) (hq : ∀ b, Q b → B ≤ b) : Below B w w' :=
  ⟨h.os, h.tape, h.output, h.size, fun b hb => h.block b (by omega) (fun q => by have := hq b q; omega)⟩
theorem WL.wide {Q Q' : Nat → Prop} {w : World} {wb : Nat} {L : List Nat} (h : WL Q w wb L) (k : ∀ b, Q b → Q' b) : WL Q' w wb L := by
  obtain ⟨v, h1, h2⟩ := h.val
  refine ⟨⟨v, h1, ?_⟩, h.soft⟩
  rcases h2 with h | ⟨g, cap, e, hq, h3⟩
  · exact .inl h
  · exact .inr ⟨g, cap, e, k g hq, h3⟩
theorem WL.wideN {Q Q' : Nat → Prop} {w : World} {wb : Nat} {L : List Nat} (h : WL Q w wb L) (hL : 0 < L.length) (k : ∀ b, Q b → b < w.heap.size → Q' b) : WL Q' w wb L := by
  obtain ⟨v, h1, h2⟩ := h.val
  refine ⟨⟨v, h1, ?_⟩, h.soft⟩
  rcases h2 with h | ⟨g, cap, e, hq, h3, h4, h5, h6⟩
  · exact .inl h
  · have hg : g < w.heap.size := by
      obtain ⟨u, hu⟩ := Option.isSome_iff_exists.1 (h6 0 (by omega)).1
      exact lt_of_cell hu
    exact .inr ⟨g, cap, e, k g hq hg, h3, h4, h5, h6⟩
theorem WL.later {Q : Nat → Prop} {w w' : World} {wb : Nat} {L : List Nat} (h : WL Q w wb L) (k : Below w.heap.size w w') : WL Q w' wb L := by
  obtain ⟨v, h1, h2⟩ := h.val
  refine ⟨⟨v, cell_on h1 k, ?_⟩, ?_⟩
  · rcases h2 with h | ⟨g, cap, e, hq, h3, h4, h5, h6⟩
    · exact .inl h
    · by_cases hc : cap = 0
      · subst hc
        exact .inr ⟨g, 0, e, hq, h3, h4, fun j hj => absurd hj (by rw [h3]; omega), fun j hj => by omega⟩
      · have hg : g < w.heap.size := by
          obtain ⟨u, hu⟩ := Option.isSome_iff_exists.1 (h6 0 (by omega)).1
          exact lt_of_cell hu
        have e' := k.block g hg
        exact .inr ⟨g, cap, e, hq, h3, h4, fun j hj => by rw [World.cell?_of_block (a := ⟨g, j, none⟩) e']; exact h5 j hj, h6.later e'⟩
  · rw [k.frozen (p := ⟨wb, 0, none⟩) h.lt]; exact h.soft

theorem left_len {n : Nat} {m : Nat → Bool} {k c : Nat} (h : M.left n m k ≤ c) : k ≤ c := by unfold M.left at h; omega

/-- What a take leaves, in the loop. -/
def Next (w : World) (n mb : Nat) (F : (Nat → Bool) → Nat → Bool) (c : Nat) (e : Ending) (W' : World) : Prop :=
  ∃ nv sv, e = .returned (.tuple #[nv, sv]) ∧ lmI w n mb F nv sv W' ∧ M.left n (nsAt W' mb).has (lenAt W' (w.heap.size + 1) + oneOf sv) = c

theorem take_next (w : World) (n mb : Nat) (F : (Nat → Bool) → Nat → Bool) (W : World) (S : NS) (L : List Nat) (hn : n ≤ 200) (hS : S.OK) (hL : WL (Qm w mb) W (w.heap.size + 1) L) (hA : At W w.heap.size nz) (hm : At W mb S) (hmb : w.heap.size + 1 < mb) (hb : Below w.heap.size w W) (hW : M.WI n F L S.has) (hle : M.left n S.has L.length ≤ n * (n + 1) + n) :
    Calls Try.prog 132 #[.pointer (some ⟨w.heap.size + 1, 0, none⟩)] W (Next w n mb F (M.left n S.has L.length)) := by
  have hlen := left_len hle
  have hbig : n * (n + 1) + n ≤ 1048576 := by
    have : n * (n + 1) ≤ 200 * 201 := Nat.mul_le_mul hn (by omega)
    omega
  rcases snoc_cases L with rfl | ⟨L', x, rfl⟩
  · refine (take_none _ _ W hL).mono ?_
    rintro e W' ⟨rfl, rfl⟩
    exact ⟨_, _, rfl, ⟨[], S, hS, hL, hA, hm, hmb, hb, .inl ⟨rfl, ⟨0, rfl⟩, rfl, hW⟩⟩, by rw [nsAt_eq hm, lenAt_eq hL]; rfl⟩
  · rw [List.length_append] at hle hlen ⊢
    simp only [List.length_cons, List.length_nil, Nat.zero_add] at hle hlen ⊢
    refine (take_some _ _ x L' W hL (fun q => Nat.lt_irrefl _ q.1) (by omega)).mono ?_
    rintro e W' ⟨rfl, hl, hg⟩
    have lw := hL.lt
    have hA' : At W' w.heap.size nz := hA.keep (hg.block _ (by omega) (fun q => by omega))
    have hm' : At W' mb S := hm.keep (hg.block _ hm.lt (fun q => by omega))
    refine ⟨_, _, rfl, ⟨L', S, hS, hl, hA', hm', hmb, hb.trans (grew_below hg hb.size (fun b q => by omega)), .inr ⟨x, rfl, rfl, hW, hle⟩⟩, ?_⟩
    rw [nsAt_eq hm', lenAt_eq hl]
    rfl

theorem wi_start (n : Nat) (F : (Nat → Bool) → Nat → Bool) : M.WI n F (List.range n) nz.has := by
  have h := M.WI.start n F (List.range n) (fun x => by simp)
  have e : nz.has = fun _ => false := funext nz_has
  rw [e]
  exact h
theorem left_start (n : Nat) : M.left n nz.has (List.range n).length ≤ n * (n + 1) + n := by
  unfold M.left
  rw [List.length_range]
  have : n - M.cnt nz.has n ≤ n := Nat.sub_le _ _
  have := Nat.mul_le_mul_right (n + 1) this
  omega

/-- What leastMarks answers. -/
structure LeastIs (n : Nat) (F : (Nat → Bool) → Nat → Bool) (w : World) (e : Ending) (w' : World) : Prop where
  val : ∃ S : NS, S.OK ∧ M.Least n F S.has ∧ e = .returned (nsv S)
  bel : Below w.heap.size w w'

set_option maxRecDepth 100000 in
set_option maxHeartbeats 8000000 in
theorem leastMarks_any (ub uo n uc : Nat) (U : Nat → NS) (p1 p2 : Value) (F : (Nat → Bool) → Nat → Bool) (w : World) (hU : SetsA w ub uo n U) (hok : ∀ i, i < n → (U i).OK) (h0 : 0 < n) (hn : n ≤ 200)
    (hM : M.Mono n F) (hD : ∀ m m' x, x < n → (∀ v, v < n → m' v = (m v || v == x)) → ∀ v, v < n → F m' v = true → F m v = false → (U v).has x = true)
    (hF : ∀ x, x < n → ∀ S : NS, S.OK → ∀ W, Below w.heap.size w W → Calls Try.prog 101 #[.int .i64 (x : Int), .agg #[.int .u64 S.a, .int .u64 S.b, .int .u64 S.c, .int .u64 S.d], p1, p2] W fun e W' => e = .returned (.bool (F S.has x)) ∧ Below W.heap.size W W') :
    Calls Try.prog 100 #[.slice (some ⟨ub, uo, none⟩) n uc, .func (.func 101) #[] #[p1, p2]] w (LeastIs n F w) := by
  have HU : Hid (SetsA w ub uo n U) := hU
  have HOK : Hid (∀ i, i < n → (U i).OK) := hok
  have HM : Hid (M.Mono n F) := hM
  have HD : Hid (∀ m m' x, x < n → (∀ v, v < n → m' v = (m v || v == x)) → ∀ v, v < n → F m' v = true → F m v = false → (U v).has x = true) := hD
  have HF : Hid (∀ x, x < n → ∀ S : NS, S.OK → ∀ W, Below w.heap.size w W → Calls Try.prog 101 #[.int .i64 (x : Int), .agg #[.int .u64 S.a, .int .u64 S.b, .int .u64 S.c, .int .u64 S.d], p1, p2] W fun e W' => e = .returned (.bool (F S.has x)) ∧ Below W.heap.size W W') := hF
  clear hU hok hM hD hF
  go_enter Try.func100, Try.ntmps100
  go_wp2
  go_loopw [14] (fun iv wr => lmI1 w n iv wr) (fun iv _ => n - (intOf iv).toNat)
  case atStart =>
    refine ⟨0, Nat.zero_le _, rfl, ⟨⟨.slice none 0 0, cN (w.heap.size + 1) (by simp) rfl, .inl ⟨rfl, rfl, rfl⟩⟩, soft1 _ _ 175 (w.heap.size + 1) 0 (by simp) (by simp)⟩, (At.new w nz).later (bel1 _ _), bel2 w _ _⟩
  case round =>
    obtain ⟨k, hk, rfl, hL, hA, hb⟩ := hrel
    have HL : Hid (WL (fun b => w.heap.size + 1 < b) wr (w.heap.size + 1) (List.range k)) := hL
    have HA : Hid (At wr w.heap.size nz) := hA
    have HB : Hid (Below w.heap.size w wr) := hb
    clear hL hA hb
    by_cases hlt : k < n
    · go_wp2_with (go_at_call 131; refine (add_any _ (w.heap.size + 1) k (List.range k) _ HL.out (fun q => Nat.lt_irrefl _ q) (by simp; omega)).mono ?_; rintro e W ⟨⟨v, rfl⟩, hl, hg⟩; have HL' : Hid (WL (fun b => w.heap.size + 1 < b ∨ wr.heap.size ≤ b) W (w.heap.size + 1) (List.range k ++ [k])) := hl; have HG : Hid (Grew (fun b => w.heap.size + 1 < b ∨ b = w.heap.size + 1) wr W) := hg; clear hl hg)
      go_roundw
      case rel =>
        have l1 := HL.out.lt
        refine ⟨k + 1, by omega, by go_num, ?_, HA.out.keep (HG.out.block _ (by omega) (fun q => by omega)), HB.out.trans (grew_below HG.out HB.out.size (fun b q => by omega))⟩
        rw [List.range_succ]
        exact HL'.out.wide (fun b q => by omega)
      case measure => simp [intOf]; omega
    · obtain rfl : k = n := by omega
      obtain ⟨V, eV⟩ : ∃ V, wr = V := ⟨_, rfl⟩
      subst wr
      have lV := HL.out.lt
      have HL2 : Hid (WL (Qm w V.heap.size) (V.alloc (nsc nz)) (w.heap.size + 1) (List.range k)) := (HL.out.wideN (by rw [List.length_range]; exact h0) (fun b q1 q2 => ⟨q1, by omega⟩)).later (bel1 V _)
      have HA2 : Hid (At (V.alloc (nsc nz)) w.heap.size nz) := HA.out.later (bel1 V _)
      have HM2 : Hid (At (V.alloc (nsc nz)) V.heap.size nz) := At.new V nz
      have HB2 : Hid (Below w.heap.size w (V.alloc (nsc nz))) := HB.out.trans ((bel1 V _).mono HB.out.size)
      go_wp2_with fail
      refine (take_next w k V.heap.size F _ nz (List.range k) hn NS.OK.zero HL2.out HA2.out HM2.out lV HB2.out (wi_start k F) (left_start k)).mono ?_
      rintro e W1 ⟨nv, sv, rfl, hI, hmea⟩
      have HI : Hid (lmI w k V.heap.size F nv sv W1) := hI
      clear hI hmea
      obtain ⟨mb, emb⟩ : ∃ mb, V.heap.size = mb := ⟨_, rfl⟩
      rw [emb] at HI
      clear HL2 HA2 HM2 HB2 HL HA HB lV
      go_wp2
      clear emb
      go_loopw [8, 9] (fun nv sv wr => lmI w k mb F nv sv wr) (fun nv sv wr => M.left k (nsAt wr mb).has (lenAt wr (w.heap.size + 1) + oneOf sv))
      case atStart => exact HI.out
      case round =>
        obtain ⟨L, S, hS, hL, hA, hM, hmb, hb, hcase⟩ := hrel
        have HS : Hid S.OK := hS
        have HL : Hid (WL (Qm w mb) wr (w.heap.size + 1) L) := hL
        have HA : Hid (At wr w.heap.size nz) := hA
        have HM3 : Hid (At wr mb S) := hM
        have HB : Hid (Below w.heap.size w wr) := hb
        obtain ⟨m0, m1, m2, m3⟩ := hM.cells
        have lmb := hM.lt
        clear hS hL hA hM hb HI
        rcases hcase with ⟨rfl, ⟨xi, rfl⟩, rfl, hW⟩ | ⟨x, rfl, rfl, hW, hle⟩
        · have HW : Hid (M.WI k F [] S.has) := hW
          obtain ⟨r0, r1, r2, r3⟩ := HA.out.cells
          obtain ⟨s0, s1, s2, s3⟩ := HA.out.soft
          have lw := HA.out.lt
          clear hW
          go_wp2
          refine bodyPost_ret (v := nsv S) (by simp [results, Try.f100, go_sem, nsv, *]) rfl ?_
          exact ⟨⟨S, HS.out, HW.out.done, rfl⟩, set4_below HB.out w.heap.size S (Nat.le_refl _)⟩
        have HW : Hid (M.WI k F (L ++ [x]) S.has) := hW
        have HLE : Hid (M.left k S.has (L.length + 1) ≤ k * (k + 1) + k) := hle
        have hxn : x < k := hW.all x (by simp)
        clear hW hle
        by_cases hx : S.has x = true
        · have HX : Hid (S.has x = true) := hx
          clear hx
          have hx2 : S.has x = true := HX.out
          go_wp2_with (first | (go_at_call 63; refine (has_ag S x _ HS.out (by omega)).mono ?_; rintro e W2 ⟨rfl, hb2⟩; have B2 : Hid (Below wr.heap.size wr W2) := hb2; obtain ⟨c0, c1, c2, c3⟩ := (HM3.out.later hb2).cells; clear hb2) | (go_at_call 132; refine (take_next w k mb F _ S L hn HS.out (HL.out.later B2.out) (HA.out.later B2.out) (HM3.out.later B2.out) hmb (HB.out.trans (B2.out.mono HB.out.size)) (HW.out.skip (.inl HX.out)) (Nat.le_trans (by unfold M.left; omega) HLE.out)).mono ?_; rintro e W4 ⟨nv, sv, rfl, hI, hmea⟩; have HI : Hid (lmI w k mb F nv sv W4) := hI; have HMEA : Hid (M.left k (nsAt W4 mb).has (lenAt W4 (w.heap.size + 1) + oneOf sv) = M.left k S.has L.length) := hmea; clear hI hmea))
          go_roundw
          case rel => exact HI.out
          case measure =>
            show M.left k (nsAt W4 mb).has (lenAt W4 (w.heap.size + 1) + oneOf sv) < M.left k (nsAt wr mb).has (lenAt wr (w.heap.size + 1) + 1)
            rw [HMEA.out, nsAt_eq HM3.out, lenAt_eq HL.out]
            unfold M.left
            omega
        have HX : Hid (S.has x = false) := by show _ = _; simpa using hx
        have hx2 : S.has x = false := HX.out
        clear hx
        by_cases hf : F S.has x = true
        · have HFX : Hid (F S.has x = true) := hf
          have hf2 : F S.has x = true := HFX.out
          clear hf
          go_wp2_with (first | (go_at_call 63; refine (has_ag S x _ HS.out (by omega)).mono ?_; rintro e W2 ⟨rfl, hb2⟩; have B2 : Hid (Below wr.heap.size wr W2) := hb2; obtain ⟨c0, c1, c2, c3⟩ := (HM3.out.later hb2).cells; clear hb2) | (go_at_call 101; refine (HF.out x hxn S HS.out _ (HB.out.trans (B2.out.mono HB.out.size))).mono ?_; rintro e W3 ⟨rfl, hb3⟩; have B3 : Hid (Below wr.heap.size wr W3) := bel_tr B2.out hb3; obtain ⟨e0, e1, e2, e3⟩ := (HM3.out.later B3.out).cells; obtain ⟨d0, d1, d2, d3⟩ := (HM3.out.later B3.out).soft; clear hb3) | (go_at_call 106; refine (with_agg S x _ HS.out (by omega)).mono ?_; rintro e W5 ⟨⟨t, ht, rfl⟩, hb5⟩; have HTT : Hid (t = S.put x) := ht; have B5 : Hid (Below wr.heap.size wr W5) := bel_tr B3.out hb5; obtain ⟨e0', e1', e2', e3'⟩ := (HM3.out.later B5.out).cells; obtain ⟨d0', d1', d2', d3'⟩ := (HM3.out.later B5.out).soft; clear hb5 ht))
          have HT : Hid t.OK := by show t.OK; rw [HTT.out]; exact HS.out.put x
          have HAZ : Hid (At (set4 W5 mb t) mb t) := (HM3.out.later B5.out).set t
          have HAN : Hid (At (set4 W5 mb t) w.heap.size nz) := (HA.out.later B5.out).keep (set4_other W5 mb t _ (by omega))
          have HLZ : Hid (WL (Qm w mb) (set4 W5 mb t) (w.heap.size + 1) L) := (HL.out.later B5.out).on (fun b hb => set4_other W5 mb t b (by rcases hb with hb | hb; exact hb.2; omega))
          have HBZ : Hid (Below w.heap.size w (set4 W5 mb t)) := set4_below (HB.out.trans (B5.out.mono HB.out.size)) mb t (by omega)
          rw [show (((W5.setCell ⟨mb, 0, none⟩ (.int .u64 t.a)).setCell ⟨mb, 1, none⟩ (.int .u64 t.b)).setCell ⟨mb, 2, none⟩ (.int .u64 t.c)).setCell ⟨mb, 3, none⟩ (.int .u64 t.d) = set4 W5 mb t from rfl]
          generalize set4 W5 mb t = Z at *
          have HMEA0 : Hid (M.left k (nsAt wr mb).has (lenAt wr (w.heap.size + 1) + 1) = M.left k S.has (L.length + 1)) := by show _ = _; rw [nsAt_eq HM3.out, lenAt_eq HL.out]
          obtain ⟨M0, eM0⟩ : ∃ M0, M.left k (nsAt wr mb).has (lenAt wr (w.heap.size + 1) + 1) = M0 := ⟨_, rfl⟩
          clear m0 m1 m2 m3 c0 c1 c2 c3 e0 e1 e2 e3 d0 d1 d2 d3 e0' e1' e2' e3' d0' d1' d2' d3' B2 B3 B5 HL HA HM3 HB lmb
          go_loopw [44] (fun iv wr => lmI3 w k mb x U t L iv wr) (fun iv _ => k - (intOf iv).toNat)
          case atStart => exact ⟨0, Nat.zero_le _, rfl, by rw [M.users, List.append_nil]; exact HLZ.out, HAN.out, HAZ.out, HBZ.out⟩
          case round =>
            obtain ⟨j, hj, rfl, hL, hA, hM, hb⟩ := hrel
            have HL : Hid (WL (Qm w mb) wr (w.heap.size + 1) (L ++ M.users (fun v y => (U v).has y) x j)) := hL
            have HA : Hid (At wr w.heap.size nz) := hA
            have HM4 : Hid (At wr mb t) := hM
            have HB : Hid (Below w.heap.size w wr) := hb
            have lmb := hM.lt
            have lwb := hL.lt
            have hlen2 : (L ++ M.users (fun v y => (U v).has y) x j).length ≤ 1048576 := by
              have h1 := left_len HLE.out
              have h2 := M.users_len (fun v y => (U v).has y) x j
              have : k * (k + 1) ≤ 200 * 201 := Nat.mul_le_mul hn (by omega)
              rw [List.length_append]
              omega
            clear hL hA hM hb
            by_cases hlt2 : j < k
            · obtain ⟨x0, x1, x2, x3⟩ := (HU.out.later HB.out) j hlt2
              have lub : ub < wr.heap.size := lt_of_cell x0
              have HUK : Hid (U j).OK := HOK.out j hlt2
              by_cases hu : (U j).has x = true
              · have HUX : Hid ((U j).has x = true) := hu
                go_wp2_with (first | (go_at_call 63; refine (has_ag (U j) x _ HUK.out (by omega)).mono ?_; rintro e W6 ⟨rfl, hb6⟩; have B6 : Hid (Below wr.heap.size wr W6) := bel_tr (bel1 wr _) hb6; clear hb6) | (go_at_call 131; refine (add_any _ (w.heap.size + 1) j _ _ (HL.out.later B6.out) (fun q => Nat.lt_irrefl _ q.1) hlen2).mono ?_; rintro e W7 ⟨⟨v, rfl⟩, hl, hg⟩; have HL7 : Hid (WL (fun b => Qm w mb b ∨ W6.heap.size ≤ b) W7 (w.heap.size + 1) (L ++ M.users (fun v y => (U v).has y) x j ++ [j])) := hl; have HG7 : Hid (Grew (fun b => Qm w mb b ∨ b = w.heap.size + 1) W6 W7) := hg; clear hl hg))
                go_roundw
                case rel =>
                  have s6 := B6.out.size
                  refine ⟨j + 1, by omega, by go_num, ?_, (HA.out.later B6.out).keep (HG7.out.block _ (by omega) (fun q => by rcases q with q | q; exact absurd q.1 (by omega); omega)), (HM4.out.later B6.out).keep (HG7.out.block _ (by omega) (fun q => by rcases q with q | q; exact q.2 rfl; omega)), (HB.out.trans (B6.out.mono HB.out.size)).trans (grew_below HG7.out (Nat.le_trans HB.out.size s6) (fun b q => by rcases q with q | q; have := q.1; omega; omega))⟩
                  rw [M.users, if_pos HUX.out, ← List.append_assoc]
                  exact HL7.out.wide (fun b q => by rcases q with q | q; exact q; exact ⟨by omega, by omega⟩)
                case measure => simp [intOf]; omega
              · have hu2 : (U j).has x = false := by simpa using hu
                have HUX : Hid (¬ (U j).has x = true) := hu
                clear hu
                go_wp2_with (go_at_call 63; refine (has_ag (U j) x _ HUK.out (by omega)).mono ?_; rintro e W6 ⟨rfl, hb6⟩; have B6 : Hid (Below wr.heap.size wr W6) := bel_tr (bel1 wr _) hb6; clear hb6)
                go_roundw
                case rel =>
                  refine ⟨j + 1, by omega, by go_num, ?_, HA.out.later B6.out, HM4.out.later B6.out, HB.out.trans (B6.out.mono HB.out.size)⟩
                  rw [M.users, if_neg HUX.out, List.append_nil]
                  exact HL.out.later B6.out
                case measure => simp [intOf]; omega
            · obtain rfl : j = k := by omega
              have hput : ∀ v, v < j → t.has v = (S.has v || v == x) := fun v hv => by rw [HTT.out, put_has _ _ _ (by omega) (by omega)]
              have HWI : Hid (M.WI j F (L ++ M.users (fun v y => (U v).has y) x j) t.has) := M.WI.mark HM.out HW.out HFX.out hput (fun u hu => ((M.users_mem _ x j u).1 hu).1) (fun v hv q1 q2 => (M.users_mem _ x j v).2 ⟨hv, HD.out S.has t.has x hxn hput v hv q1 q2⟩)
              have HLT : Hid (M.left j t.has (L ++ M.users (fun v y => (U v).has y) x j).length < M.left j S.has (L.length + 1)) := by
                show _ < _
                rw [List.length_append]
                exact M.left_mark hxn HX.out hput (M.users_len _ x j)
              clear hput
              go_wp2_with (go_at_call 132; refine (take_next w j mb F _ t _ hn HT.out HL.out HA.out HM4.out hmb HB.out HWI.out (Nat.le_trans (Nat.le_of_lt HLT.out) HLE.out)).mono ?_; rintro e W4 ⟨nv, sv, rfl, hI, hmea⟩; have HI : Hid (lmI w j mb F nv sv W4) := hI; have HMEA : Hid (M.left j (nsAt W4 mb).has (lenAt W4 (w.heap.size + 1) + oneOf sv) = M.left j t.has (L ++ M.users (fun v y => (U v).has y) x j).length) := hmea; clear hI hmea)
              go_roundw
              case rel => exact HI.out
              case measure =>
                show M.left j (nsAt W4 mb).has (lenAt W4 (w.heap.size + 1) + oneOf sv) < M.left j (nsAt _ mb).has (lenAt _ (w.heap.size + 1) + 1)
                rw [HMEA.out]
                exact HMEA0.out ▸ HLT.out
        · have HFX : Hid (F S.has x = false) := by show _ = _; simpa using hf
          have hf2 : F S.has x = false := HFX.out
          clear hf
          go_wp2_with (first | (go_at_call 63; refine (has_ag S x _ HS.out (by omega)).mono ?_; rintro e W2 ⟨rfl, hb2⟩; have B2 : Hid (Below wr.heap.size wr W2) := hb2; obtain ⟨c0, c1, c2, c3⟩ := (HM3.out.later hb2).cells; clear hb2) | (go_at_call 101; refine (HF.out x hxn S HS.out _ (HB.out.trans (B2.out.mono HB.out.size))).mono ?_; rintro e W3 ⟨rfl, hb3⟩; have B3 : Hid (Below wr.heap.size wr W3) := bel_tr B2.out hb3; obtain ⟨e0, e1, e2, e3⟩ := (HM3.out.later B3.out).cells; obtain ⟨d0, d1, d2, d3⟩ := (HM3.out.later B3.out).soft; clear hb3) | (go_at_call 132; refine (take_next w k mb F _ S L hn HS.out (HL.out.later B3.out) (HA.out.later B3.out) (HM3.out.later B3.out) hmb (HB.out.trans (B3.out.mono HB.out.size)) (HW.out.skip (.inr HFX.out)) (Nat.le_trans (by unfold M.left; omega) HLE.out)).mono ?_; rintro e W4 ⟨nv, sv, rfl, hI, hmea⟩; have HI : Hid (lmI w k mb F nv sv W4) := hI; have HMEA : Hid (M.left k (nsAt W4 mb).has (lenAt W4 (w.heap.size + 1) + oneOf sv) = M.left k S.has L.length) := hmea; clear hI hmea))
          go_roundw
          case rel => exact HI.out
          case measure =>
            show M.left k (nsAt W4 mb).has (lenAt W4 (w.heap.size + 1) + oneOf sv) < M.left k (nsAt wr mb).has (lenAt wr (w.heap.size + 1) + 1)
            rw [HMEA.out, nsAt_eq HM3.out, lenAt_eq HL.out]
            unfold M.left
            omega

end Go.Proofs.Ytjpcojabdjldbaa
