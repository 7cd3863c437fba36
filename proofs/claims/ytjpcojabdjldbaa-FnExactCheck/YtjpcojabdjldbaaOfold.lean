/-
  Walks: the fold over a body, for openings.
-/
import Derived.Test.YtjpcojabdjldbaaStk
import Derived.Test.YtjpcojabdjldbaaBodies
import Derived.Deep.RegionLaw
namespace Go.Proofs.Ytjpcojabdjldbaa
open Go.RowKit
open M (OpD NodeD Gr)
set_option linter.unusedVariables false
set_option linter.unusedSimpArgs false

/-- The operands of an element lie where the slice says. -/
def OperA (W : World) (oa : Option Addr) (o : OpD) (l : List (Nat × Opn)) : Prop :=
  (M.ar o.kind = 1 → ∃ g b s x r, l = (s, x) :: r ∧ oa = some ⟨g, b, none⟩ ∧ OpnC W g b x) ∧
  (M.ar o.kind = 2 → ∃ g b s2 y s1 x r, l = (s2, y) :: (s1, x) :: r ∧ oa = some ⟨g, b, none⟩ ∧ OpnC W g b x ∧ OpnC W g (b + 6) y)

theorem enter104 (args : Array Value) (w : World) : (callFunc 104 args).run Try.prog w = .ok (.enter 104 args) w := by
  simp [callFunc, Try.func104, Try.f104, go_sem]
theorem info95 : (Try.prog.info? 95).map (fun i => (i.zero, i.size, i.bytes)) = some (some (.agg #[.bool false, .int .u64 0, .int .u64 0, .int .u64 0, .int .u64 0, .bool false]), 6, 48) := by kernel_rfl
theorem elem140 : ElemT 140 95 6 48 := ⟨Try.underlying140, ⟨_, info95, rfl⟩, by omega⟩

def foldI (w : World) (nr n : Nat) (mk : NS) (B : Nat → OpD) (v i : Value) (wr : World) : Prop :=
  ∃ k g cap : Nat, k ≤ n ∧ i = .int .i64 (k : Int) ∧ v = .slice (some ⟨g, 0, none⟩) ((M.stk (valO nr mk) B k).length + 1) cap ∧
    OwnC (fun b => w.heap.size < b) wr v 6 ((M.stk (valO nr mk) B k).length + 1) (stkC (M.stk (valO nr mk) B k)) ∧ At6 wr w.heap.size oz ∧ Below w.heap.size w wr ∧ ∀ p, p ∈ M.stk (valO nr mk) B k → p.2.beg.OK

theorem src_six {w : World} {g : Nat} {x : Opn} (h : At6 w g x) : Src Try.prog 6 140 (.slice (some ⟨g, 0, none⟩) 1 1) 1 (opl x) w := by
  obtain ⟨h0, h1, h2, h3, h4, h5⟩ := h.cells
  refine Src.ofSlice (P := Try.prog) w Try.underlying140 ⟨g, 0, none⟩ 1 1 (opl x) rfl (fun j u hu => ?_) (fun u hu => ?_)
  · match j, hu with
    | 0, hu => simp [opl] at hu; subst hu; simpa [Addr.add] using h0
    | 1, hu => simp [opl] at hu; subst hu; simpa [Addr.add] using h1
    | 2, hu => simp [opl] at hu; subst hu; simpa [Addr.add] using h2
    | 3, hu => simp [opl] at hu; subst hu; simpa [Addr.add] using h3
    | 4, hu => simp [opl] at hu; subst hu; simpa [Addr.add] using h4
    | 5, hu => simp [opl] at hu; subst hu; simpa [Addr.add] using h5
    | j + 6, hu => simp [opl] at hu
  · simp [opl] at hu
    rcases hu with rfl | rfl | rfl | rfl | rfl | rfl <;> rfl

theorem At6.keep' {w w' : World} {b : Nat} {x : Opn} (h : At6 w b x) (k : w'.heap[b]? = w.heap[b]?) : At6 w' b x := k.trans h

theorem drop_stk {l : List (Nat × Opn)} {a : Nat} (h : a ≤ l.length) : ∃ post, stkC l = stkC (l.drop a) ++ post ∧ (l.drop a).length + a = l.length := by
  induction a generalizing l with
  | zero => exact ⟨[], by simp, by simp⟩
  | succ a ih =>
    match l with
    | [] => simp at h
    | (s, x) :: r =>
      obtain ⟨post, h1, h2⟩ := ih (l := r) (by simpa using h)
      exact ⟨post ++ opl x, by rw [stkC, h1, List.drop_succ_cons, List.append_assoc], by simp; simp at h2; omega⟩

/-- The operands, out of the stack's cells. -/
theorem oper_of {Q : Nat → Prop} {w : World} {g cap : Nat} {o : OpD} {l : List (Nat × Opn)} (h : OwnC Q w (.slice (some ⟨g, 0, none⟩) (l.length + 1) cap) 6 (l.length + 1) (stkC l)) (ha : M.ar o.kind ≤ (l.length : Int)) (oa : Option Addr) (hoa : 0 < M.ar o.kind → oa = some ⟨g, (l.length + 1 - (M.ar o.kind).toNat) * 6, none⟩) : OperA w oa o l := by
  rcases h with ⟨q, _⟩ | ⟨g', cap', q, h2, h3, h4, h5, h6⟩
  · cases q
  · cases q
    constructor
    · intro e
      rw [e] at ha hoa
      match l with
      | [] => simp at ha
      | (s, x) :: r =>
        refine ⟨g, _, s, x, r, rfl, hoa (by omega), ?_⟩
        have := opn_at (pre := stkC r) (post := []) (x := x) h5 (by simp [stkC])
        rw [stkC_len] at this
        simpa using this
    · intro e
      rw [e] at ha hoa
      match l with
      | [] => simp at ha
      | [_] => simp at ha
      | (s2, y) :: (s1, x) :: r =>
        refine ⟨g, _, s2, y, s1, x, r, rfl, hoa (by omega), ?_, ?_⟩
        · have := opn_at (pre := stkC r) (post := opl y) (x := x) h5 (by simp [stkC, List.append_assoc])
          rw [stkC_len] at this
          simpa using this
        · have := opn_at (pre := stkC r ++ opl x) (post := []) (x := y) h5 (by simp [stkC])
          rw [List.length_append, stkC_len, opl_len] at this
          have e2 : (r.length + 1) * 6 + 6 = (r.length + 1 + 1 + 1 - (2 : Int).toNat) * 6 + 6 := by simp
          rw [e2] at this
          exact this

theorem make95 (w : World) : (Instr.makeSlice 140 (.int .i64 1) (.int .i64 1)).run Try.prog w = .ok (.slice (some ⟨w.heap.size, 0, none⟩) 1 1) (w.alloc (ops6 oz)) := by
  obtain ⟨i, hi, hi2⟩ := Option.map_eq_some_iff.1 info95
  simp only [Prod.mk.injEq] at hi2
  obtain ⟨hz, hs, hb⟩ := hi2
  have hr := run_make (P := Try.prog) w 140 95 i _ Try.underlying140 hi hz .i64 .i64 1 1 (by omega) (Int.le_refl _) (by rw [hb]; omega) (by omega)
  rw [hs] at hr
  have e : madeCells (Value.agg #[.bool false, .int .u64 0, .int .u64 0, .int .u64 0, .int .u64 0, .bool false]).cells (Int.toNat 1 * 6) = #[.bool false, .int .u64 0, .int .u64 0, .int .u64 0, .int .u64 0, .bool false] := by kernel_rfl
  rw [e] at hr
  exact hr

theorem own_made (w : World) : OwnC (fun b => b = w.heap.size) (w.alloc (ops6 oz)) (.slice (some ⟨w.heap.size, 0, none⟩) 1 1) 6 1 (stkC []) := by
  have h := At6.new w oz
  obtain ⟨h0, h1, h2, h3, h4, h5⟩ := h.cells
  obtain ⟨s0, s1, s2, s3, s4, s5⟩ := h.soft
  refine .inr ⟨w.heap.size, 1, rfl, rfl, rfl, Nat.le_refl _, fun j hj => ?_, fun j hj => ?_⟩
  · match j, hj with
    | 0, _ => exact h0
    | 1, _ => exact h1
    | 2, _ => exact h2
    | 3, _ => exact h3
    | 4, _ => exact h4
    | 5, _ => exact h5
    | j + 6, hj =>
      rw [stkC_len] at hj
      simp at hj
      omega
  · match j, hj with
    | 0, _ => exact ⟨by rw [h0]; rfl, s0⟩
    | 1, _ => exact ⟨by rw [h1]; rfl, s1⟩
    | 2, _ => exact ⟨by rw [h2]; rfl, s2⟩
    | 3, _ => exact ⟨by rw [h3]; rfl, s3⟩
    | 4, _ => exact ⟨by rw [h4]; rfl, s4⟩
    | 5, _ => exact ⟨by rw [h5]; rfl, s5⟩
    | j + 6, hj => omega

theorem own_wide {Q Q' : Nat → Prop} {w : World} {v : Value} {sz n : Nat} {cs : List Value} (h : OwnC Q w v sz n cs) (k : ∀ b, Q b → Q' b) : OwnC Q' w v sz n cs := by
  rcases h with h | ⟨g, cap, e, hq, h3⟩
  · exact .inl h
  · exact .inr ⟨g, cap, e, k g hq, h3⟩
theorem own_late {Q : Nat → Prop} {w w' : World} {v : Value} {sz n : Nat} {cs : List Value} (h : OwnC Q w v sz n cs) (hz : 0 < sz) (k : Below w.heap.size w w') : OwnC Q w' v sz n cs := by
  rcases h with h | ⟨g, cap, e, hq, h3, h4, h5, h6⟩
  · exact .inl h
  · by_cases hc : cap = 0
    · subst hc
      have : n = 0 := by omega
      subst this
      exact .inr ⟨g, 0, e, hq, h3, h4, fun j hj => absurd hj (by rw [h3]; omega), fun j hj => by omega⟩
    · have hg : g < w.heap.size := by
        obtain ⟨u, hu⟩ := Option.isSome_iff_exists.1 (h6 0 (Nat.mul_pos (by omega) hz)).1
        exact lt_of_cell hu
      have e' := k.block g hg
      exact .inr ⟨g, cap, e, hq, h3, h4, fun j hj => by rw [World.cell?_of_block (a := ⟨g, j, none⟩) e']; exact h5 j hj, h6.later e'⟩
theorem own_cap {Q : Nat → Prop} {w : World} {g cap n sz : Nat} {cs : List Value} (h : OwnC Q w (.slice (some ⟨g, 0, none⟩) n cap) sz n cs) : n ≤ cap := by
  rcases h with ⟨q, _⟩ | ⟨g', cap', q, h2, h3, h4, h5, h6⟩
  · cases q
  · cases q; exact h4

theorem fold_step {w wr W1 W4 : World} {nr n k b st : Nat} {mk : NS} {B : Nat → OpD} {l : List (Nat × Opn)} {v : Opn} {v' : Value} (hlt : k < n) (hA : At6 wr w.heap.size oz) (hB : Below w.heap.size w wr) (hall : ∀ p, p ∈ l → p.2.beg.OK) (h1 : M.stk (valO nr mk) B (k + 1) = M.stp (valO nr mk) (B k) k l)
    (h2 : M.stp (valO nr mk) (B k) k l = (st, valOf nr mk (B k) l) :: l.drop (M.ar (B k).kind).toNat) (h3 : valOf nr mk (B k) l = v) (h4 : (l.drop (M.ar (B k).kind).toNat).length + 1 = b) (h5 : Below wr.heap.size wr W1)
    (h6 : OwnC (fun x => w.heap.size < x ∨ (W1.alloc (ops6 v)).heap.size ≤ x) W4 v' 6 (b + 1) (stkC (l.drop (M.ar (B k).kind).toNat) ++ opl v)) (h7 : Grew (fun x => w.heap.size < x) (W1.alloc (ops6 v)) W4) : foldI w nr n mk B v' (.int .i64 ((k + 1 : Nat) : Int)) W4 := by
  have e : M.stk (valO nr mk) B (k + 1) = (st, v) :: l.drop (M.ar (B k).kind).toNat := by rw [h1, h2, h3]
  have lw := hA.lt
  have s5 := h5.size
  have hb' : Below wr.heap.size wr (W1.alloc (ops6 v)) := bel_tr h5 (bel1 W1 _)
  have q : OwnC (fun x => w.heap.size < x) W4 v' 6 (b + 1) (stkC (M.stk (valO nr mk) B (k + 1))) := by
    rw [e]
    exact own_wide h6 (fun x q => by
      rcases q with q | q
      · exact q
      · rw [World.size_alloc] at q; omega)
  rcases q with ⟨_, q, _⟩ | ⟨g, cap, rfl, q2, q3⟩
  · omega
  have hlen : (M.stk (valO nr mk) B (k + 1)).length + 1 = b + 1 := by rw [e, List.length_cons]; omega
  refine ⟨k + 1, g, cap, by omega, rfl, by rw [hlen], ?_, (hA.later hb').keep' (h7.block _ (by rw [World.size_alloc]; omega) (fun q => Nat.lt_irrefl _ q)), ?_, ?_⟩
  · rw [hlen]; exact .inr ⟨g, cap, rfl, q2, q3⟩
  · refine (hB.trans (hb'.mono hB.size)).trans ⟨h7.os, h7.tape, h7.output, h7.size, fun x hx => h7.block x (by rw [World.size_alloc]; omega) (fun q => by omega)⟩
  · intro p hp
    rw [e] at hp
    rcases List.mem_cons.1 hp with rfl | hp
    · rw [← h3]; exact valOf_ok nr mk (B k) l hall
    · exact hall p (List.mem_of_mem_drop hp)

theorem stkC_top (l : List (Nat × Opn)) : ∃ pre, stkC l = pre ++ opl (M.top l) ∧ pre.length = l.length * 6 := by
  match l with
  | [] => exact ⟨[], rfl, rfl⟩
  | (s, v) :: r => exact ⟨stkC r, rfl, by rw [stkC_len]; simp⟩
theorem wrap_q (m : Nat) (h : m ≤ 1048576) : IntKind.i64.wrap (m : Int) = (m : Int) := by
  simp [IntKind.wrap, IntKind.bits, IntKind.signed]
  omega

def stkN (nr : Nat) (mk : NS) (B : Nat → OpD) (k : Nat) : Nat := (M.stk (valO nr mk) B k).length

set_option maxRecDepth 100000 in
set_option maxHeartbeats 8000000 in
theorem fold_any (Q : Nat → Prop) (a : Option Addr) (n c nr nb : Nat) (B : Nat → OpD) (mk : NS) (p1 p2 : Value) (w : World) (hB : OpsA Q w a n B) (hok : n = 0 ∨ M.BodyOK nr nb n B) (hn : n ≤ 1048576)
    (hV : ∀ (o : OpD) (l : List (Nat × Opn)) (W : World) (sa oa : Option Addr) (sc oc : Nat), M.ElemOK nr nb o → Below w.heap.size w W → (∀ p, p ∈ l → p.2.beg.OK) → M.ar o.kind ≤ (l.length : Int) → OperA W oa o l →
      Calls Try.prog 104 #[.agg #[.int .i64 o.kind, .slice sa o.sl sc, .int .i64 o.arg], .slice oa (M.ar o.kind).toNat oc, p1, p2] W (IsOpn (valOf nr mk o l) W)) :
    Calls Try.prog 103 #[.slice a n c, .func (.func 104) #[] #[p1, p2]] w (IsOpn (M.top (M.stk (valO nr mk) B n)) w) := by
  have HB : Hid (OpsA Q w a n B) := hB
  have HOK : Hid (n = 0 ∨ M.BodyOK nr nb n B) := hok
  have HV : Hid (∀ (o : OpD) (l : List (Nat × Opn)) (W : World) (sa oa : Option Addr) (sc oc : Nat), M.ElemOK nr nb o → Below w.heap.size w W → (∀ p, p ∈ l → p.2.beg.OK) → M.ar o.kind ≤ (l.length : Int) → OperA W oa o l →
      Calls Try.prog 104 #[.agg #[.int .i64 o.kind, .slice sa o.sl sc, .int .i64 o.arg], .slice oa (M.ar o.kind).toNat oc, p1, p2] W (IsOpn (valOf nr mk o l) W)) := hV
  clear hB hok hV
  have hmk := make95
  go_enter Try.func103, Try.ntmps103
  go_wp2
  go_loopw [5, 12] (fun v i wr => foldI w nr n mk B v i wr) (fun v i _ => n - (intOf i).toNat)
  case atStart =>
    refine ⟨0, w.heap.size + 1, 1, Nat.zero_le _, rfl, by simp [M.stk], ?_, ?_, bel2 w _ _, by simp [M.stk]⟩
    · have := own_made (w.alloc (ops6 oz))
      rw [World.size_alloc] at this
      exact own_wide this (fun b q => by omega)
    · exact (At6.new w oz).later (bel1 _ _)
  case round =>
    obtain ⟨k, g, cap, hk, rfl, rfl, hown, hat, hbel, hall⟩ := hrel
    have HOWN : Hid (OwnC (fun b => w.heap.size < b) wr (.slice (some ⟨g, 0, none⟩) ((M.stk (valO nr mk) B k).length + 1) cap) 6 ((M.stk (valO nr mk) B k).length + 1) (stkC (M.stk (valO nr mk) B k))) := hown
    have HAT : Hid (At6 wr w.heap.size oz) := hat
    have HBE : Hid (Below w.heap.size w wr) := hbel
    have HALL : Hid (∀ p, p ∈ M.stk (valO nr mk) B k → p.2.beg.OK) := hall
    have hcap := own_cap hown
    have lwr := hat.lt
    clear hown hat hbel hall
    by_cases hlt : k < n
    · have hbody : M.BodyOK nr nb n B := by
        rcases HOK.out with q | q
        · omega
        · exact q
      have hF : M.Fed B k := fun j hj => hbody.2.1 j (by omega)
      have hE : Hid (M.ElemOK nr nb (B k)) := hbody.1 k hlt
      have hsl := M.stk_len (valO nr mk) B k hF
      have hard := hbody.2.1 k hlt
      have harb := M.ar_bd (B k).kind
      have HST : Hid (M.stk (valO nr mk) B (k + 1) = M.stp (valO nr mk) (B k) k (M.stk (valO nr mk) B k)) := rfl
      have hdb := M.dep_bd B n k (by omega) (fun j hj => hbody.2.1 j (by omega))
      clear hF hbody
      generalize M.stk (valO nr mk) B k = l at *
      have hal : M.ar (B k).kind ≤ (l.length : Int) := by omega
      obtain ⟨r, hr⟩ : ∃ r : Nat, (M.ar (B k).kind) = (r : Int) := ⟨(M.ar (B k).kind).toNat, by omega⟩
      obtain ⟨len, hlen⟩ : ∃ len, l.length + 1 = len := ⟨_, rfl⟩
      obtain ⟨b, hb⟩ : ∃ b, len - r = b := ⟨_, rfl⟩
      have hb1 : 1 ≤ b := by omega
      have hb2 : b ≤ len := by omega
      have hb3 : (len : Int) - M.ar (B k).kind = (b : Int) := by omega
      have hb4 : len ≤ cap := by omega
      have hb5 : b ≤ cap := by omega
      have hb6 : len ≤ 2097152 := by omega
      have HR : Hid (M.ar (B k).kind = (r : Int)) := hr
      have HLEN : Hid (l.length + 1 = len) := hlen
      have HBB : Hid (len - r = b) := hb
      have HAL : Hid (M.ar (B k).kind ≤ (l.length : Int)) := hal
      obtain ⟨st, hst⟩ := stp_eq nr mk (B k) k l hal
      have HSTP : Hid (M.stp (valO nr mk) (B k) k l = (st, valOf nr mk (B k) l) :: l.drop (M.ar (B k).kind).toNat) := hst
      rw [hlen] at HOWN
      rw [hlen]
      have hB := HB.out.later HBE.out
      rcases hB with h0 | ⟨bb, off, rfl, hq, hB⟩
      · omega
      obtain ⟨c0, ⟨sa, sc, c1, hss⟩, c2⟩ := hB k hlt
      have hbl : bb < wr.heap.size := lt_of_cell c0
      clear hB hss hsl hard hdb hal hst hr hlen hb hcap
      have x0 : (wr.alloc (.cells #[.int .i64 (B k).kind, .slice sa (B k).sl sc, .int .i64 (B k).arg] 80)).cell? ⟨wr.heap.size, 0, none⟩ = some (.int .i64 (B k).kind) := cN wr.heap.size rfl rfl
      have x1 : (wr.alloc (.cells #[.int .i64 (B k).kind, .slice sa (B k).sl sc, .int .i64 (B k).arg] 80)).cell? ⟨wr.heap.size, 1, none⟩ = some (.slice sa (B k).sl sc) := cN wr.heap.size rfl rfl
      have x2 : (wr.alloc (.cells #[.int .i64 (B k).kind, .slice sa (B k).sl sc, .int .i64 (B k).arg] 80)).cell? ⟨wr.heap.size, 2, none⟩ = some (.int .i64 (B k).arg) := cN wr.heap.size rfl rfl
      have bX : Hid (Below wr.heap.size wr (wr.alloc (.cells #[.int .i64 (B k).kind, .slice sa (B k).sl sc, .int .i64 (B k).arg] 80))) := bel1 wr _
      go_wp2_with (go_at_call 125; refine (operandsOf_any _ _).mono ?_; rintro e W' ⟨rfl, hw⟩; subst W')
      generalize wr.alloc (.cells #[.int .i64 (B k).kind, .slice sa (B k).sl sc, .int .i64 (B k).arg] 80) = X at *
      obtain ⟨v, hv⟩ : ∃ v, valOf nr mk (B k) l = v := ⟨_, rfl⟩
      have HVV : Hid (valOf nr mk (B k) l = v) := hv
      clear hv
      have hz0 : ¬ cap = 0 := by omega
      have hlr : Hid (len - b = (M.ar (B k).kind).toNat) := by show _ = _; have := HR.out; have := HBB.out; omega
      have key : ∀ oa : Option Addr, (0 < M.ar (B k).kind → oa = some ⟨g, b * 6, none⟩) → ∀ W, Below wr.heap.size wr W → Calls Try.prog 104 #[.agg #[.int .i64 (B k).kind, .slice sa (B k).sl sc, .int .i64 (B k).arg], .slice oa (len - b) (cap - b), p1, p2] W (fun e W' => e = .returned (.agg #[.bool v.nul, .int .u64 v.beg.a, .int .u64 v.beg.b, .int .u64 v.beg.c, .int .u64 v.beg.d, .bool v.loop]) ∧ Below W.heap.size W W') := fun oa hoa W hW => by
        have h := HV.out (B k) l W sa oa sc (cap - b) hE.out (HBE.out.trans (hW.mono HBE.out.size)) HALL.out HAL.out (oper_of (own_late (by rw [HLEN.out]; exact HOWN.out) (by omega) hW) HAL.out oa (fun q => by rw [hoa q]; have := HLEN.out; have := HBB.out; have := HR.out; congr 2; omega))
        rw [HVV.out, ← hlr.out] at h
        exact h
      have HKEY : Hid (∀ oa : Option Addr, (0 < M.ar (B k).kind → oa = some ⟨g, b * 6, none⟩) → ∀ W, Below wr.heap.size wr W → Calls Try.prog 104 #[.agg #[.int .i64 (B k).kind, .slice sa (B k).sl sc, .int .i64 (B k).arg], .slice oa (len - b) (cap - b), p1, p2] W (fun e W' => e = .returned (.agg #[.bool v.nul, .int .u64 v.beg.a, .int .u64 v.beg.b, .int .u64 v.beg.c, .int .u64 v.beg.d, .bool v.loop]) ∧ Below W.heap.size W W')) := key
      clear key
      obtain ⟨post, hpost, hdrop⟩ := drop_stk (l := l) (a := (M.ar (B k).kind).toNat) (by have := HAL.out; have := HR.out; omega)
      have HCUT : Hid (∀ W, Below wr.heap.size wr W → OwnC (fun b => w.heap.size < b) W (.slice (some ⟨g, 0, none⟩) b cap) 6 b (stkC (l.drop (M.ar (B k).kind).toNat))) := fun W hW => own_late (own_cut HOWN.out hpost (by rw [stkC_len]; have := HLEN.out; have := HBB.out; have := HR.out; congr 1; omega) hb2 (by omega)) (by omega) hW
      have HDROP : Hid ((l.drop (M.ar (B k).kind).toNat).length + 1 = b) := by show _ = _; have := HLEN.out; have := HBB.out; have := HR.out; omega
      clear hpost hdrop
      have HIF : Hid (cap = b → ¬ 0 < M.ar (B k).kind) := fun e q => by have := HR.out; have := HBB.out; omega
      go_region_law (first
        | (refine stepClo enter104 rfl (.tmp 25) (.tmp 26) (.tmp 29) 80 140 rfl (p1 := p1) (p2 := p2) (y1 := .agg #[.int .i64 (B k).kind, .slice sa (B k).sl sc, .int .i64 (B k).arg]) (y2 := .slice (if cap = b then some ⟨g, 0, none⟩ else some ⟨g, b * 6, none⟩) (len - b) (cap - b)) (by simp [Act.eval, Act.put]) (by simp [Act.eval, Act.put]) (by simp [Act.eval, Act.put]) ((HKEY.out (if cap = b then some ⟨g, 0, none⟩ else some ⟨g, b * 6, none⟩) (fun q => if_neg (fun e => HIF.out e q)) X.drew bX.out.drew).mono ?_)
           rintro e W1 ⟨rfl, hb1⟩
           have B1 : Hid (Below wr.heap.size wr W1) := bel_tr bX.out ((Below.refl _ X).drew.trans hb1)
           clear hb1
           refine ⟨_, rfl, ?_⟩)
        | (refine stepC rfl (.tmp 24) (.tmp 31) 140 140 rfl (v := .slice (some ⟨g, 0, none⟩) b cap) (y := .slice (some ⟨W1.heap.size, 0, none⟩) 1 1) (by simp [Act.eval, Act.put]) (by simp [Act.eval, Act.put]) elem140 (HCUT.out (W1.alloc (ops6 v)) (bel_tr B1.out (bel1 W1 _))) (src_six (At6.new W1 v)) (by omega) (fun _ => Nat.one_pos) ?_
           intro v' W4 hown4 hgrew4 hsz4
           have HO4 : Hid (OwnC (fun x => w.heap.size < x ∨ (W1.alloc (ops6 v)).heap.size ≤ x) W4 v' 6 (b + 1) (stkC (l.drop (M.ar (B k).kind).toNat) ++ opl v)) := hown4
           have HG4 : Hid (Grew (fun x => w.heap.size < x) (W1.alloc (ops6 v)) W4) := hgrew4
           clear hown4 hgrew4 hsz4))
      all_goals go_goals
      all_goals go_wp2
      all_goals go_roundw
      all_goals first
        | exact fold_step hlt HAT.out HBE.out HALL.out HST.out HSTP.out HVV.out HDROP.out B1.out HO4.out HG4.out
        | (simp [intOf]; omega)
    · obtain rfl : k = n := by omega
      obtain ⟨pre, hpre, hpl⟩ := stkC_top (M.stk (valO nr mk) B k)
      have hrow : OpnC wr g ((M.stk (valO nr mk) B k).length * 6) (M.top (M.stk (valO nr mk) B k)) := by
        rcases HOWN.out with ⟨q, _⟩ | ⟨g', cap', q, h2, h3, h4, h5, h6⟩
        · cases q
        · cases q
          have := opn_at (pre := pre) (post := []) h5 (by rw [hpre, List.append_nil])
          rw [hpl] at this
          exact this
      have hsm : (M.stk (valO nr mk) B k).length ≤ 1048576 := by
        rcases HOK.out with q | q
        · subst q; simp [M.stk]
        · have := M.stk_len (valO nr mk) B k q.2.1
          rw [q.2.2] at this
          omega
      clear hpre hpl HALL HOWN HV hcap
      generalize M.stk (valO nr mk) B k = l at *
      obtain ⟨q, hq⟩ : ∃ q, l.length = q := ⟨_, rfl⟩
      rw [hq] at hrow hsm
      rw [hq]
      clear hq
      have x1 : ((q + 1 : Nat) : Int) - 1 = (q : Int) := by omega
      obtain ⟨t0, t1, t2, t3, t4, t5⟩ := hrow
      obtain ⟨r0, r1, r2, r3, r4, r5⟩ := HAT.out.cells
      obtain ⟨s0, s1, s2, s3, s4, s5⟩ := HAT.out.soft
      simp only [oz, nz] at r0 r1 r2 r3 r4 r5
      generalize M.top l = v at *
      have x2 := wrap_q q hsm
      go_wp2
      refine bodyPost_ret (v := opv v) (by simp [results, Try.f103, go_sem, opv, *]) rfl ?_
      exact ⟨rfl, set6_below HBE.out w.heap.size v (Nat.le_refl _)⟩

end Go.Proofs.Ytjpcojabdjldbaa
