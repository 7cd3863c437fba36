import Derived.Test.YteoddjobpmmgeaaGreatT02
import Derived.Test.YteoddjobpmmgeaaGreatT01
set_option linter.unusedVariables false
set_option linter.unusedSimpArgs false
namespace Go.Proofs.YteoddjobpmmgeaaGreat
section
open Go.RowKit
open M (OpD NodeD Gr InsD EX ins)
structure IC where
  d : InsD
  a : Option Addr
  c : Nat
def icv (x : IC) : List Value := [.int .i64 x.d.kind, .int .i64 x.d.arg, .int .i64 x.d.to, .slice x.a x.d.sl x.c]
def cellsI : List IC → List Value
  | [] => []
  | x :: l => icv x ++ cellsI l
def SetsA (S : Nat → Prop) (w : World) (l : List IC) : Prop := ∀ x, x ∈ l → Ints S .i64 w x.a x.d.sl x.d.set
theorem SetsA.on {S : Nat → Prop} {w w' : World} {l : List IC} (h : SetsA S w l) (k : Stay S w w') : SetsA S w' l := fun x hx => (h x hx).on k
theorem SetsA.later {S : Nat → Prop} {w w' : World} {l : List IC} (h : SetsA S w l) (k : Below w.heap.size w w') : SetsA S w' l := fun x hx => (h x hx).later k
theorem SetsA.wide {S S' : Nat → Prop} {w : World} {l : List IC} (h : SetsA S w l) (k : ∀ b, S b → S' b) : SetsA S' w l := fun x hx => (h x hx).wide k
structure IRowP (w0 w : World) (v : Value) (l : List IC) (P S : Nat → Prop) : Prop where
  own : OwnC P w v 4 l.length (cellsI l)
  sets : SetsA S w l
  p : ∀ b, P b → w0.heap.size ≤ b ∧ b < w.heap.size ∧ ¬ S b
  s : ∀ b, S b → w0.heap.size ≤ b ∧ b < w.heap.size
  bel : Below w0.heap.size w0 w
  ne : v = .slice none 0 0 ∨ 0 < l.length
def IRow (w0 w : World) (v : Value) (l : List IC) : Prop := ∃ P S, IRowP w0 w v l P S
theorem ownC_late {Q : Nat → Prop} {w w' : World} {v : Value} {sz n : Nat} {cs : List Value} (h : OwnC Q w v sz n cs) (hq : ∀ b, Q b → b < w.heap.size) (k : Below w.heap.size w w') : OwnC Q w' v sz n cs :=
  h.on (fun b hb => k.block b (hq b hb))
theorem IRowP.later {w0 w w' : World} {v : Value} {l : List IC} {P S : Nat → Prop} (h : IRowP w0 w v l P S) (k : Below w.heap.size w w') : IRowP w0 w' v l P S :=
  ⟨ownC_late h.own (fun b hb => (h.p b hb).2.1) k, h.sets.later k, fun b hb => ⟨(h.p b hb).1, Nat.lt_of_lt_of_le (h.p b hb).2.1 k.size, (h.p b hb).2.2⟩, fun b hb => ⟨(h.s b hb).1, Nat.lt_of_lt_of_le (h.s b hb).2 k.size⟩, h.bel.trans (k.mono h.bel.size), h.ne⟩
theorem IRow.later {w0 w w' : World} {v : Value} {l : List IC} (h : IRow w0 w v l) (k : Below w.heap.size w w') : IRow w0 w' v l := let ⟨P, S, h⟩ := h; ⟨P, S, h.later k⟩
theorem IRow.bel {w0 w : World} {v : Value} {l : List IC} (h : IRow w0 w v l) : Below w0.heap.size w0 w := let ⟨_, _, h⟩ := h; h.bel
theorem IRow.shape {w0 w : World} {v : Value} {l : List IC} (h : IRow w0 w v l) : ∃ a c, v = .slice a l.length c := by
  obtain ⟨P, S, h⟩ := h
  rcases h.own with ⟨rfl, e, _⟩ | ⟨g, cap, rfl, _⟩
  · exact ⟨none, 0, by rw [e]⟩
  · exact ⟨_, _, rfl⟩
theorem IRow.nil {w0 w : World} (h : Below w0.heap.size w0 w) : IRow w0 w (.slice none 0 0) [] :=
  ⟨fun _ => False, fun _ => False, .inl ⟨rfl, rfl, rfl⟩, fun x hx => absurd hx (List.not_mem_nil), fun b q => q.elim, fun b q => q.elim, h, .inl rfl⟩
theorem IRow.since {w0 w1 w : World} {v : Value} {l : List IC} (h : IRow w1 w v l) (k : Below w0.heap.size w0 w1) : IRow w0 w v l := by
  obtain ⟨P, S, h⟩ := h
  have := k.size
  exact ⟨P, S, h.own, h.sets, fun b hb => ⟨by have := (h.p b hb).1; omega, (h.p b hb).2⟩, fun b hb => ⟨by have := (h.s b hb).1; omega, (h.s b hb).2⟩, bel_tr k h.bel, h.ne⟩
theorem appN_run {w : World} {x : Value} {sz bytes : Nat} {news : List Value} {t tx e : TypeId} (ty : TypeId) (hE : ElemT t e sz bytes) (hs : Src Tryz.prog sz tx x 0 news w) :
    (Builtin.append_ #[t, tx] ty #[.slice none 0 0, x]).run Tryz.prog w = .ok (.slice none 0 0) w := by
  obtain ⟨z, hi, hzc⟩ := hE.info
  obtain ⟨i, hi', hzz⟩ := Option.map_eq_some_iff.1 hi
  simp only [Prod.mk.injEq] at hzz
  obtain ⟨hz0, hz1, hz2⟩ := hzz
  have hc := hs.cells
  rw [← hz1] at hc
  rcases hs.kind with ⟨e', hk⟩ | hk <;> simp [Builtin.append_, run_underlying hE.und, run_underlying hk, sizeOf, typeInfo, hi', hs.len, hc]
end
section
open Go.RowKit
def intVs (k : IntKind) (S : Nat → Int) (n : Nat) : List Value := (List.range n).map fun i => .int k (S i)
theorem intVs_len (k : IntKind) (S : Nat → Int) (n : Nat) : (intVs k S n).length = n := by simp [intVs]
theorem intVs_get {k : IntKind} {S : Nat → Int} {n i : Nat} (h : i < n) : (intVs k S n)[i]? = some (.int k (S i)) := by simp [intVs, h]
theorem intVs_one (k : IntKind) (S : Nat → Int) (n : Nat) : ∀ u ∈ intVs k S n, u.oneCell' = true := by
  intro u hu
  obtain ⟨i, _, rfl⟩ := List.mem_map.1 hu
  rfl
theorem Ints.src {Q : Nat → Prop} {k : IntKind} {w : World} {x : Addr} {n c : Nat} {S : Nat → Int} {tx e : TypeId} (hk : Tryz.prog.underlying tx = some (.slice e)) (h : Ints Q k w (some x) n S) : Src Tryz.prog 1 tx (.slice (some x) n c) n (intVs k S n) w := by
  refine Src.ofSlice (P := Tryz.prog) w hk x n c (intVs k S n) (by rw [intVs_len, Nat.mul_one]) (fun j u hu => ?_) (intVs_one k S n)
  have hj : j < n := by have := (List.getElem?_eq_some_iff.1 hu).1; rwa [intVs_len] at this
  rw [intVs_get hj] at hu
  cases hu
  rcases h with h0 | ⟨b, off, e, _, h⟩
  · omega
  · cases e
    have e' : (⟨b, off, none⟩ : Addr).add j = ⟨b, off + j, none⟩ := by
      by_cases h0 : j = 0
      · subst h0; simp [Addr.add]
      · simp [Addr.add, h0]
    rw [e']
    exact h j hj
theorem OwnC.ints {Q : Nat → Prop} {k : IntKind} {w : World} {v : Value} {n : Nat} {S : Nat → Int} (h : OwnC Q w v 1 n (intVs k S n)) : ∃ a c, v = .slice a n c ∧ Ints Q k w a n S := by
  rcases h with ⟨rfl, rfl, _⟩ | ⟨g, cap, rfl, hq, hl, _, hc, _⟩
  · exact ⟨none, 0, rfl, .inl rfl⟩
  · refine ⟨_, _, rfl, .inr ⟨g, 0, rfl, hq, fun i hi => ?_⟩⟩
    rw [Nat.zero_add, hc i (by rw [intVs_len]; exact hi), intVs_get hi]
theorem Grew.below {Q : Nat → Prop} {w0 w w' : World} (h : Grew Q w w') (hb : Below w0.heap.size w0 w) (hq : ∀ b, b < w0.heap.size → ¬ Q b) : Below w0.heap.size w0 w' :=
  ⟨h.os.trans hb.os, h.tape.trans hb.tape, h.output.trans hb.output, Nat.le_trans hb.size h.size, fun b hbb => (h.block b (Nat.lt_of_lt_of_le hbb hb.size) (hq b hbb)).trans (hb.block b hbb)⟩
end
section
open Go.RowKit
open M (OpD NodeD Gr InsD)
def rg (M : Nat → Bool) : Nat → List Int
  | 0 => []
  | b + 1 => rg M b ++ ((if M b && (b == 0 || !M (b - 1)) then [(b : Int)] else []) ++ (if M b && (b == 255 || !M (b + 1)) then [(b : Int)] else []))
theorem rg_succ (M : Nat → Bool) (b : Nat) : rg M (b + 1) = rg M b ++ ((if M b && (b == 0 || !M (b - 1)) then [(b : Int)] else []) ++ (if M b && (b == 255 || !M (b + 1)) then [(b : Int)] else [])) := rfl
theorem rg_len (M : Nat → Bool) (b : Nat) : (rg M b).length ≤ 2 * b := by
  induction b with
  | zero => exact Nat.le_refl _
  | succ b ih =>
    rw [rg, List.length_append, List.length_append]
    have : ∀ (c : Bool), (if c then [(b : Int)] else []).length ≤ 1 := fun c => by cases c <;> simp
    have h1 := this (M b && (b == 0 || !M (b - 1)))
    have h2 := this (M b && (b == 255 || !M (b + 1)))
    omega
def intsV (fl : List Int) : List Value := fl.map (fun z => .int .i64 z)
def OwnL (w0 w : World) (v : Value) (l : List Int) : Prop := ∃ P, OwnC P w v 1 l.length (intsV l) ∧ (∀ b, P b → w0.heap.size ≤ b ∧ b < w.heap.size) ∧ Below w0.heap.size w0 w
theorem OwnL.bel {w0 w : World} {v : Value} {l : List Int} (h : OwnL w0 w v l) : Below w0.heap.size w0 w := let ⟨_, _, _, h⟩ := h; h
theorem OwnL.nil {w0 w : World} (h : Below w0.heap.size w0 w) : OwnL w0 w (.slice none 0 0) [] := ⟨fun _ => False, .inl ⟨rfl, rfl, rfl⟩, fun b q => q.elim, h⟩
theorem OwnL.shape {w0 w : World} {v : Value} {l : List Int} (h : OwnL w0 w v l) : ∃ a c, v = .slice a l.length c := by
  obtain ⟨P, h, _⟩ := h
  exact own_shape h
theorem list_run {w0 w1 : World} {v : Value} {l : List Int} (z : Int) (ty : TypeId) (h : OwnL w0 w1 v l) (hl : l.length ≤ 4096) :
    ∃ v' w', (Builtin.append_ #[40, 40] ty #[v, .slice (some ⟨w1.heap.size, 0, none⟩) 1 1]).run Tryz.prog (w1.alloc (.cells #[.int .i64 z] 3)) = .ok v' w' ∧ OwnL w0 w' v' (l ++ [z]) := by
  obtain ⟨P, ho, hp, hb⟩ := h
  have b1 := bel1 w1 (.cells #[.int .i64 z] 3)
  have hs : Src Tryz.prog 1 40 (.slice (some ⟨w1.heap.size, 0, none⟩) 1 1) 1 [.int .i64 z] (w1.alloc (.cells #[.int .i64 z] 3)) := by
    refine Src.ofSlice (P := Tryz.prog) _ Tryz.underlying40 ⟨w1.heap.size, 0, none⟩ 1 1 [.int .i64 z] rfl (fun j u hu => ?_) (fun u hu => ?_)
    · match j, hu with
      | 0, hu => simpa [Addr.add] using (cN w1.heap.size rfl hu : (w1.alloc (.cells #[.int .i64 z] 3)).cell? ⟨w1.heap.size, 0, none⟩ = some u)
      | j + 1, hu => simp at hu
    · simp at hu; subst hu; rfl
  obtain ⟨v', w', hr, k1, k2, k3⟩ := appC_run' ty elem40 (ho.on (fun b hb => b1.block b (hp b hb).2)) hs (by omega) (fun _ => Nat.one_pos)
  refine ⟨v', w', hr, fun b => (P b ∨ (w1.alloc (.cells #[.int .i64 z] 3)).heap.size ≤ b) ∧ b < w'.heap.size, ?_, ?_, ?_⟩
  · have e : intsV (l ++ [z]) = intsV l ++ [.int .i64 z] := by simp [intsV]
    rw [e, List.length_append, List.length_singleton]
    rcases k1 with q | ⟨g, cap, e, hq, h3, h4, h5, h6⟩
    · exact .inl q
    · refine .inr ⟨g, cap, e, ⟨hq, ?_⟩, h3, h4, h5, h6⟩
      obtain ⟨u, hu⟩ := Option.isSome_iff_exists.1 (h6 0 (by omega)).1
      exact lt_of_cell hu
  · rintro b ⟨q | q, hlt⟩
    · exact ⟨(hp b q).1, hlt⟩
    · have := hb.size
      have := b1.size
      exact ⟨by omega, hlt⟩
  · have hs0 := hb.size
    have hs1 := b1.size
    exact ⟨k2.os.trans (b1.os.trans hb.os), k2.tape.trans (b1.tape.trans hb.tape), k2.output.trans (b1.output.trans hb.output), by have := k2.size; omega, fun b hbb => (k2.block b (by omega) (fun q => by have := (hp b q).1; omega)).trans ((b1.block b (by omega)).trans (hb.block b hbb))⟩
theorem listA {ops : Array Oper} {rest : List Oper} {o : Oper} {a : Act} {P' : Exit → Act → World → Prop} (hgd : o.guard = none) (s x : Operand) (ho : o.op = .call { callee := .builtin .append, args := #[s, x], argTypes := #[40, 40] })
    {w0 w1 : World} {v : Value} {l : List Int} {z : Int} (hs : a.eval s = v) (hx : a.eval x = .slice (some ⟨w1.heap.size, 0, none⟩) 1 1) (h : OwnL w0 w1 v l) (hl : l.length ≤ 4096)
    (k : ∀ w' l' n' a' c', Hid (l' = l ++ [z]) → Hid (n' = l'.length) → Hid (OwnL w0 w' (.slice a' n' c') l') → wpList Tryz.prog ops P' rest (a.put o.dst (.slice a' n' c')) w') : wpList Tryz.prog ops P' (o :: rest) a (w1.alloc (.cells #[.int .i64 z] 3)) := by
  refine wpList_plain hgd fun K hK => ?_
  obtain ⟨v', w', hr, hR⟩ := list_run z o.type h hl
  obtain ⟨a', c', rfl⟩ := hR.shape
  unfold Oper.wp execOp
  simp only [ho, resolve, invoke, builtin, Sem.run_bind, Sem.run_pure, Result.andThen_ok, List.map_toArray, List.map_cons, List.map_nil, hs, hx, hr]
  exact hK _ _ (k w' (l ++ [z]) _ a' c' rfl rfl hR)
def Bools (w : World) (a : Option Addr) (M : Nat → Bool) : Prop := ∃ b, a = some ⟨b, 0, none⟩ ∧ ∀ i, i < 256 → w.cell? ⟨b, i, none⟩ = some (.bool (M i))
def GivesL (l : List Int) (w : World) (e : Ending) (w' : World) : Prop := ∃ a c, e = .returned (.slice a l.length c) ∧ OwnL w w' (.slice a l.length c) l
def rgI (w : World) (M : Nat → Bool) (ov iv : Value) (wr : World) : Prop := ∃ k : Nat, k ≤ 256 ∧ iv = .int .i64 (k : Int) ∧ OwnL w wr ov (rg M k)
set_option maxRecDepth 100000 in
set_option maxHeartbeats 8000000 in
theorem l2ranges_any (a : Option Addr) (M : Nat → Bool) (w : World) (hM : Bools w a M) : Calls Tryz.prog 75 #[.slice a 256 256] w (GivesL (rg M 256) w) := by
  obtain ⟨b, rfl, hc⟩ := hM
  have HC : Hid (∀ i, i < 256 → w.cell? ⟨b, i, none⟩ = some (.bool (M i))) := hc
  have lb := lt_of_cell (hc 0 (by omega))
  clear hc
  go_enter Tryz.func75, Tryz.ntmps75
  go_wp2
  go_loopw [3, 4] (fun ov iv wr => rgI w M ov iv wr) (fun ov iv _ => 256 - (intOf iv).toNat)
  case atStart => exact ⟨0, by omega, rfl, OwnL.nil (Below.refl _ _)⟩
  case round =>
    obtain ⟨k, hk, rfl, hO⟩ := hrel
    obtain ⟨oa, oc, rfl⟩ := hO.shape
    have hln := rg_len M k
    obtain ⟨on, hon⟩ : ∃ on, (rg M k).length = on := ⟨_, rfl⟩
    rw [hon] at hO hln ⊢
    have HO : Hid (OwnL w wr (.slice oa on oc) (rg M k)) := hO
    have HON : Hid ((rg M k).length = on) := hon
    have HCW : Hid (∀ W i, Below w.heap.size w W → i < 256 → W.cell? ⟨b, i, none⟩ = some (.bool (M i))) := fun W i hb hi => cell_on (HC.out i hi) hb
    clear hO hon
    by_cases hlt : k < 256
    · have hlt' : (k : Int) < 256 := by omega
      have lbw : b < wr.heap.size := Nat.lt_of_lt_of_le lb HO.out.bel.size
      rcases Nat.eq_zero_or_pos k with h0 | h0
      · subst h0
        have c0 := HCW.out wr (0) HO.out.bel (by omega)
        have cn := HCW.out wr (1) HO.out.bel (by omega)
        cases hM : M (0) with
        | false =>
          rw [hM] at c0
          have HR : Hid (rg M (0 + 1) = rg M (0)) := by show _ = _; rw [rg_succ M (0)]; simp [hM]
          clear hM
          go_wp2
          go_roundw
          case rel =>
            refine ⟨(0) + 1, by omega, by go_num, ?_⟩
            rw [HR.out]; exact HO.out
          case measure => first | (simp [intOf]; done) | (simp [intOf]; omega)
        | true =>
          rw [hM] at c0
          cases hN : M (1) with
          | true =>
            rw [hN] at cn
            have hM2 : Hid (M (0) = true) := hM
            have hN2 : Hid (M (1) = true) := hN
            have HR : Hid (rg M (0 + 1) = rg M (0) ++ [((0 : Nat) : Int)]) := by show _ = _; rw [rg_succ M (0)]; simp [hM, hN]
            clear hM hN
            go_wp2_with (at_builtin; refine listA (l := rg M (0)) rfl _ _ rfl rfl rfl HO.out (by rw [HON.out]; omega) ?_; intro W L n a1 c1 E1 E2 E3; have d0 := HCW.out W (0) E3.out.bel (by omega); have dn := HCW.out W (1) E3.out.bel (by omega); have lbW := lt_of_cell d0; rw [hM2.out] at d0; rw [hN2.out] at dn)
            go_roundw
            case rel =>
              refine ⟨(0) + 1, by omega, by go_num, ?_⟩
              rw [HR.out]; exact E1.out ▸ E3.out
            case measure => first | (simp [intOf]; done) | (simp [intOf]; omega)
          | false =>
            rw [hN] at cn
            have hM2 : Hid (M (0) = true) := hM
            have hN2 : Hid (M (1) = false) := hN
            have HR : Hid (rg M (0 + 1) = rg M (0) ++ ([((0 : Nat) : Int)] ++ [((0 : Nat) : Int)])) := by show _ = _; rw [rg_succ M (0)]; simp [hM, hN]
            clear hM hN
            go_wp2_with (first | (at_builtin; refine listA (l := rg M (0)) rfl _ _ rfl rfl rfl HO.out (by rw [HON.out]; omega) ?_; intro W L n a1 c1 E1 E2 E3; have d0 := HCW.out W (0) E3.out.bel (by omega); have dn := HCW.out W (1) E3.out.bel (by omega); have lbW := lt_of_cell d0; rw [hM2.out] at d0; rw [hN2.out] at dn) | (at_builtin; refine listA (l := L) rfl _ _ rfl rfl rfl E3.out (by rw [E1.out, List.length_append, HON.out]; simp; omega) ?_; intro W2 L2 n2 a2 c2 G1 G2 G3))
            go_roundw
            case rel =>
              refine ⟨(0) + 1, by omega, by go_num, ?_⟩
              have e : rg M ((0) + 1) = L2 := by rw [HR.out, G1.out, E1.out, List.append_assoc]; rfl
              rw [e]; exact G3.out
            case measure => first | (simp [intOf]; done) | (simp [intOf]; omega)
      · obtain ⟨j, rfl⟩ : ∃ j, k = j + 1 := ⟨k - 1, by omega⟩
        have e0 : ((j : Int) + 1 == 0) = false := by simp; omega
        by_cases h5 : j = 254
        · subst h5
          have c0 := HCW.out wr (255) HO.out.bel (by omega)
          have cp := HCW.out wr (254) HO.out.bel (by omega)
          cases hM : M (255) with
          | false =>
            rw [hM] at c0
            have HR : Hid (rg M (255 + 1) = rg M (255)) := by show _ = _; rw [rg_succ M (255)]; simp [hM]
            clear hM
            go_wp2
            go_roundw
            case rel =>
              refine ⟨(255) + 1, by omega, by go_num, ?_⟩
              rw [HR.out]; exact HO.out
            case measure => first | (simp [intOf]; done) | (simp [intOf]; omega)
          | true =>
            rw [hM] at c0
            cases hP : M (254) with
            | true =>
              rw [hP] at cp
              have hM2 : Hid (M (255) = true) := hM
              have HR : Hid (rg M (255 + 1) = rg M (255) ++ [((255 : Nat) : Int)]) := by show _ = _; rw [rg_succ M (255)]; simp [hM, hP]
              clear hM hP
              go_wp2_with (at_builtin; refine listA (l := rg M (255)) rfl _ _ rfl rfl rfl HO.out (by rw [HON.out]; omega) ?_; intro W L n a1 c1 E1 E2 E3; have d0 := HCW.out W (255) E3.out.bel (by omega); have lbW := lt_of_cell d0)
              go_roundw
              case rel =>
                refine ⟨(255) + 1, by omega, by go_num, ?_⟩
                rw [HR.out]; exact E1.out ▸ E3.out
              case measure => first | (simp [intOf]; done) | (simp [intOf]; omega)
            | false =>
              rw [hP] at cp
              have hM2 : Hid (M (255) = true) := hM
              have HR : Hid (rg M (255 + 1) = rg M (255) ++ ([((255 : Nat) : Int)] ++ [((255 : Nat) : Int)])) := by show _ = _; rw [rg_succ M (255)]; simp [hM, hP]
              clear hM hP
              go_wp2_with (first | (at_builtin; refine listA (l := rg M (255)) rfl _ _ rfl rfl rfl HO.out (by rw [HON.out]; omega) ?_; intro W L n a1 c1 E1 E2 E3; have d0 := HCW.out W (255) E3.out.bel (by omega); have lbW := lt_of_cell d0; rw [hM2.out] at d0) | (at_builtin; refine listA (l := L) rfl _ _ rfl rfl rfl E3.out (by rw [E1.out, List.length_append, HON.out]; simp; omega) ?_; intro W2 L2 n2 a2 c2 G1 G2 G3))
              go_roundw
              case rel =>
                refine ⟨(255) + 1, by omega, by go_num, ?_⟩
                have e : rg M ((255) + 1) = L2 := by rw [HR.out, G1.out, E1.out, List.append_assoc]; rfl
                rw [e]; exact G3.out
              case measure => first | (simp [intOf]; done) | (simp [intOf]; omega)
        · have e5 : ((j : Int) + 1 == 255) = false := by simp; omega
          have hj2 : (j : Int) + 1 + 1 < 256 := by omega
          have c0 := HCW.out wr (j + 1) HO.out.bel (by omega)
          have cp := HCW.out wr (j) HO.out.bel (by omega)
          have cn := HCW.out wr (j + 1 + 1) HO.out.bel (by omega)
          cases hM : M (j + 1) with
          | false =>
            rw [hM] at c0
            have HR : Hid (rg M (j + 1 + 1) = rg M (j + 1)) := by show _ = _; rw [rg_succ M (j + 1)]; simp [h5, hM]
            clear hM
            go_wp2
            go_roundw
            case rel =>
              refine ⟨(j + 1) + 1, by omega, by go_num, ?_⟩
              rw [HR.out]; exact HO.out
            case measure => first | (simp [intOf]; done) | (simp [intOf]; omega)
          | true =>
            rw [hM] at c0
            cases hP : M (j) with
            | true =>
              rw [hP] at cp
              cases hN : M (j + 1 + 1) with
              | true =>
                rw [hN] at cn
                have hM2 : Hid (M (j + 1) = true) := hM
                have hN2 : Hid (M (j + 1 + 1) = true) := hN
                have HR : Hid (rg M (j + 1 + 1) = rg M (j + 1)) := by show _ = _; rw [rg_succ M (j + 1)]; simp [h5, hM, hP, hN]
                clear hM hP hN
                go_wp2
                go_roundw
                case rel =>
                  refine ⟨(j + 1) + 1, by omega, by go_num, ?_⟩
                  rw [HR.out]; exact HO.out
                case measure => first | (simp [intOf]; done) | (simp [intOf]; omega)
              | false =>
                rw [hN] at cn
                have hM2 : Hid (M (j + 1) = true) := hM
                have hN2 : Hid (M (j + 1 + 1) = false) := hN
                have HR : Hid (rg M (j + 1 + 1) = rg M (j + 1) ++ [((j + 1 : Nat) : Int)]) := by show _ = _; rw [rg_succ M (j + 1)]; simp [h5, hM, hP, hN]
                clear hM hP hN
                go_wp2_with (at_builtin; refine listA (l := rg M (j + 1)) rfl _ _ rfl rfl rfl HO.out (by rw [HON.out]; omega) ?_; intro W L n a1 c1 E1 E2 E3; have d0 := HCW.out W (j + 1) E3.out.bel (by omega); have dn := HCW.out W (j + 1 + 1) E3.out.bel (by omega); have lbW := lt_of_cell d0)
                go_roundw
                case rel =>
                  refine ⟨(j + 1) + 1, by omega, by go_num, ?_⟩
                  rw [HR.out]; exact E1.out ▸ E3.out
                case measure => first | (simp [intOf]; done) | (simp [intOf]; omega)
            | false =>
              rw [hP] at cp
              cases hN : M (j + 1 + 1) with
              | true =>
                rw [hN] at cn
                have hM2 : Hid (M (j + 1) = true) := hM
                have hN2 : Hid (M (j + 1 + 1) = true) := hN
                have HR : Hid (rg M (j + 1 + 1) = rg M (j + 1) ++ [((j + 1 : Nat) : Int)]) := by show _ = _; rw [rg_succ M (j + 1)]; simp [h5, hM, hP, hN]
                clear hM hP hN
                go_wp2_with (at_builtin; refine listA (l := rg M (j + 1)) rfl _ _ rfl rfl rfl HO.out (by rw [HON.out]; omega) ?_; intro W L n a1 c1 E1 E2 E3; have d0 := HCW.out W (j + 1) E3.out.bel (by omega); have dn := HCW.out W (j + 1 + 1) E3.out.bel (by omega); have lbW := lt_of_cell d0; rw [hM2.out] at d0; rw [hN2.out] at dn)
                go_roundw
                case rel =>
                  refine ⟨(j + 1) + 1, by omega, by go_num, ?_⟩
                  rw [HR.out]; exact E1.out ▸ E3.out
                case measure => first | (simp [intOf]; done) | (simp [intOf]; omega)
              | false =>
                rw [hN] at cn
                have hM2 : Hid (M (j + 1) = true) := hM
                have hN2 : Hid (M (j + 1 + 1) = false) := hN
                have HR : Hid (rg M (j + 1 + 1) = rg M (j + 1) ++ ([((j + 1 : Nat) : Int)] ++ [((j + 1 : Nat) : Int)])) := by show _ = _; rw [rg_succ M (j + 1)]; simp [h5, hM, hP, hN]
                clear hM hP hN
                go_wp2_with (first | (at_builtin; refine listA (l := rg M (j + 1)) rfl _ _ rfl rfl rfl HO.out (by rw [HON.out]; omega) ?_; intro W L n a1 c1 E1 E2 E3; have d0 := HCW.out W (j + 1) E3.out.bel (by omega); have dn := HCW.out W (j + 1 + 1) E3.out.bel (by omega); have lbW := lt_of_cell d0; rw [hM2.out] at d0; rw [hN2.out] at dn) | (at_builtin; refine listA (l := L) rfl _ _ rfl rfl rfl E3.out (by rw [E1.out, List.length_append, HON.out]; simp; omega) ?_; intro W2 L2 n2 a2 c2 G1 G2 G3))
                go_roundw
                case rel =>
                  refine ⟨(j + 1) + 1, by omega, by go_num, ?_⟩
                  have e : rg M ((j + 1) + 1) = L2 := by rw [HR.out, G1.out, E1.out, List.append_assoc]; rfl
                  rw [e]; exact G3.out
                case measure => first | (simp [intOf]; done) | (simp [intOf]; omega)
    · obtain rfl : k = 256 := by omega
      go_wp2
      go_ret
      exact ⟨oa, oc, by rw [HON.out]; rfl, by rw [HON.out]; exact HO.out⟩
theorem info4 : (Tryz.prog.info? 4).map (fun i => (i.zero, i.size, i.bytes)) = some (some (.bool false), 1, 1) := by kernel_rfl
end
section
open Go.RowKit
open M (OpD NodeD Gr InsD)
def lf (l : List Int) (i : Nat) : Int := l.getD i 0
def MSt.note (s : MSt) (n : Nat) (S : Nat → Int) : MSt :=
  if s.far < s.pos then { s with far := s.pos, exp := fun b => hasN n S (b : Int) }
  else if s.pos = s.far then { s with exp := fun b => hasN n S (b : Int) || s.exp b } else s
def MSt.test (s : MSt) (n : Nat) (S : Nat → Int) (il : Nat) (I : Nat → Int) : MSt :=
  if s.pos < il ∧ hasN n S (I s.pos) = true then { s with pos := s.pos + 1, at_ := s.at_ + 1 }
  else (if s.inNot then s else s.note n S).fail
def MSt.pop (s : MSt) : MSt := { s with st := s.st.dropLast }
def MSt.enter (s : MSt) (x : InsD) (most : Int) : MSt := ({ s with at_ := x.to }).push ⟨2, s.at_ + 1, 0, 0⟩ most
def MSt.put (s : MSt) (k a : Int) : MSt := { s with log := s.log ++ [⟨k, a, s.pos⟩], at_ := s.at_ + 1 }
def MSt.hold (s : MSt) (k to most : Int) : MSt := ({ s with at_ := s.at_ + 1 }).push ⟨k, to, s.pos, s.log.length⟩ most
def topTo (l : List FrD) : Int := match l.getLast? with | none => 0 | some f => f.to
def MSt.act (s : MSt) (x : InsD) (il : Nat) (I : Nat → Int) (most : Int) : MSt :=
  if x.kind = 0 then s.test x.sl x.set il I
  else if x.kind = 1 then s.hold 0 x.to most
  else if x.kind = 4 then s.hold 1 x.to most
  else if x.kind = 6 then s.enter x most
  else if x.kind = 8 then (if s.inNot then s.fail else if x.to < 0 then ({ s with throws := s.throws + 1, label := x.arg }).fin 2 else ({ s with throws := s.throws + 1 }).enter x most)
  else if x.kind = 2 ∧ s.top 0 = true then { s.pop with at_ := x.to }
  else if x.kind = 3 ∧ s.top 0 = true then ({ s.pop with at_ := x.to }).push ⟨0, topTo s.st, s.pos, s.log.length⟩ most
  else if x.kind = 5 ∧ s.top 1 = true then s.pop.fail
  else if x.kind = 7 ∧ s.top 2 = true then { s.pop with at_ := topTo s.st }
  else if x.kind = 9 then s.put 0 x.arg
  else if x.kind = 10 then s.put 1 x.arg
  else if x.kind = 11 then s.put 2 x.arg
  else if x.kind = 12 ∧ s.st.length = 0 then s.fin 0
  else s.fin 4
def MSt.next (s : MSt) (n : Nat) (R : Nat → InsD) (il : Nat) (I : Nat → Int) (fuel most : Int) : MSt :=
  if s.at_ < 0 ∨ (n : Int) ≤ s.at_ then s.fin 4
  else if (s.steps : Int) = fuel then s.fin 3
  else ({ s with steps := s.steps + 1 }).act (R s.at_.toNat) il I most
inductive Ends (n : Nat) (R : Nat → InsD) (il : Nat) (I : Nat → Int) (fuel most : Int) : MSt → MSt → Prop
  | over {s : MSt} : s.done = true → Ends n R il I fuel most s s
  | go {s t : MSt} : s.done = false → Ends n R il I fuel most (s.next n R il I fuel most) t → Ends n R il I fuel most s t
structure Good (most : Int) (s : MSt) : Prop where
  len : (s.st.length : Int) ≤ most
  logs : s.log.length ≤ s.steps
  last : ∀ f, f ∈ s.st → f.kind ≠ 2 → f.log ≤ s.log.length
  asc : s.st.Pairwise (fun f g => f.kind ≠ 2 → g.kind ≠ 2 → f.log ≤ g.log)
  kinds : ∀ f, f ∈ s.st → f.kind = 0 ∨ f.kind = 1 ∨ f.kind = 2
theorem Good.fin {most : Int} {s : MSt} (h : Good most s) (c : Int) : Good most (s.fin c) := ⟨h.len, h.logs, h.last, h.asc, h.kinds⟩
theorem unwind_some {l r : List FrD} {f : FrD} (h : unwind l = some (f, r)) : f.kind ≠ 2 ∧ ∃ p, l = p ++ f :: r := by
  induction l with
  | nil => simp [unwind] at h
  | cons x l ih =>
    rw [unwind] at h
    by_cases e : x.kind = 2
    · rw [if_pos e] at h
      obtain ⟨h1, p, rfl⟩ := ih h
      exact ⟨h1, x :: p, rfl⟩
    · rw [if_neg e] at h
      cases h
      exact ⟨e, [], rfl⟩
theorem Good.fail {most : Int} {s : MSt} (h : Good most s) : Good most s.fail := by
  unfold MSt.fail
  cases hu : unwind s.st.reverse with
  | none => exact h.fin 1
  | some p =>
    obtain ⟨f, r⟩ := p
    obtain ⟨hk, p, hp⟩ := unwind_some hu
    have hst : s.st = r.reverse ++ (f :: p.reverse) := by
      have := congrArg List.reverse hp
      simpa using this
    have hf : f ∈ s.st := by rw [hst]; simp
    have hl := h.last f hf hk
    have ha := h.asc
    rw [hst, List.pairwise_append] at ha
    obtain ⟨a1, a2, a3⟩ := ha
    refine ⟨?_, ?_, ?_, a1, fun g hg => h.kinds g (by rw [hst]; exact List.mem_append_left _ hg)⟩
    · have := h.len
      rw [hst, List.length_append] at this
      show ((r.reverse.length : Nat) : Int) ≤ most
      omega
    · show (s.log.take f.log).length ≤ s.steps
      have := h.logs
      rw [List.length_take]
      omega
    · intro g hg hgk
      show g.log ≤ (s.log.take f.log).length
      rw [List.length_take, Nat.min_eq_left hl]
      exact a3 g hg f (List.mem_cons_self) hgk hk
theorem Good.push {most : Int} {s : MSt} (h : Good most s) (f : FrD) (hf : f.kind ≠ 2 → f.log = s.log.length) (hk : f.kind = 0 ∨ f.kind = 1 ∨ f.kind = 2) : Good most (s.push f most) := by
  unfold MSt.push
  split
  · exact h.fin 3
  · rename_i hlt
    refine ⟨?_, h.logs, fun g hg hgk => ?_, ?_, fun g hg => ?_⟩
    · show (((s.st ++ [f]).length : Nat) : Int) ≤ most
      rw [List.length_append, List.length_singleton]
      omega
    · rcases List.mem_append.1 hg with q | q
      · exact h.last g q hgk
      · simp at q; subst q; show g.log ≤ s.log.length; rw [hf hgk]; exact Nat.le_refl _
    · show (s.st ++ [f]).Pairwise _
      rw [List.pairwise_append]
      refine ⟨h.asc, by simp, fun x hx y hy h1 h2 => ?_⟩
      simp at hy; subst hy
      rw [hf h2]
      exact h.last x hx h1
    · rcases List.mem_append.1 hg with q | q
      · exact h.kinds g q
      · simp at q; subst q; exact hk
theorem Good.pop {most : Int} {s : MSt} (h : Good most s) : Good most s.pop := by
  refine ⟨?_, h.logs, fun g hg => h.last g (List.dropLast_subset _ hg), h.asc.sublist (List.dropLast_sublist _), fun g hg => h.kinds g (List.dropLast_subset _ hg)⟩
  have := h.len
  show ((s.st.dropLast.length : Nat) : Int) ≤ most
  rw [List.length_dropLast]
  omega
theorem Good.at {most : Int} {s : MSt} (h : Good most s) (z : Int) : Good most { s with at_ := z } := ⟨h.len, h.logs, h.last, h.asc, h.kinds⟩
theorem Good.note {most : Int} {s : MSt} (h : Good most s) (n : Nat) (S : Nat → Int) : Good most (s.note n S) := by
  unfold MSt.note
  split
  · exact ⟨h.len, h.logs, h.last, h.asc, h.kinds⟩
  · split
    · exact ⟨h.len, h.logs, h.last, h.asc, h.kinds⟩
    · exact h
theorem Good.test {most : Int} {s : MSt} (h : Good most s) (n : Nat) (S : Nat → Int) (il : Nat) (I : Nat → Int) : Good most (s.test n S il I) := by
  unfold MSt.test
  split
  · exact ⟨h.len, h.logs, h.last, h.asc, h.kinds⟩
  · refine Good.fail ?_
    split
    · exact h
    · exact h.note n S
theorem Good.enter {most : Int} {s : MSt} (h : Good most s) (x : InsD) : Good most (s.enter x most) := (h.at x.to).push _ (fun q => absurd rfl q) (.inr (.inr rfl))
theorem Good.hold {most : Int} {s : MSt} (h : Good most s) (k to : Int) (hk : k = 0 ∨ k = 1) : Good most (s.hold k to most) := (h.at (s.at_ + 1)).push _ (fun _ => rfl) (by rcases hk with q | q; exact .inl q; exact .inr (.inl q))
theorem Ends.next {n : Nat} {R : Nat → InsD} {il : Nat} {I : Nat → Int} {fuel most : Int} {s t : MSt} (h : Ends n R il I fuel most s t) (hd : s.done = false) : Ends n R il I fuel most (s.next n R il I fuel most) t := by
  cases h with
  | over q => rw [hd] at q; cases q
  | go _ q => exact q
def ExA (Q : Nat → Prop) (w : World) (xa : Option Addr) (xn : Nat) (M : Nat → Bool) : Prop := xn = (rg M 256).length ∧ Ints Q .i64 w xa xn (lf (rg M 256))
theorem ExA.later {Q : Nat → Prop} {w w' : World} {xa : Option Addr} {xn : Nat} {M : Nat → Bool} (h : ExA Q w xa xn M) (k : Below w.heap.size w w') : ExA Q w' xa xn M := ⟨h.1, h.2.later k⟩
theorem ExA.wide {Q Q' : Nat → Prop} {w : World} {xa : Option Addr} {xn : Nat} {M : Nat → Bool} (h : ExA Q w xa xn M) (k : ∀ b, Q b → Q' b) : ExA Q' w xa xn M := ⟨h.1, h.2.wide k⟩
theorem ExA.on {Q : Nat → Prop} {w w' : World} {xa : Option Addr} {xn : Nat} {M : Nat → Bool} (h : ExA Q w xa xn M) (k : Stay Q w w') : ExA Q w' xa xn M := ⟨h.1, h.2.on k⟩
theorem ExA.le {Q : Nat → Prop} {w : World} {xa : Option Addr} {xn : Nat} {M : Nat → Bool} (h : ExA Q w xa xn M) : xn ≤ 512 := by rw [h.1]; exact rg_len M 256
end
end Go.Proofs.YteoddjobpmmgeaaGreat
