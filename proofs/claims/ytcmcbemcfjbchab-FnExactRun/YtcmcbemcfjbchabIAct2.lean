/-
  Walks: the program's actions: throw, not, logging, test.
-/
import Derived.Test.YtcmcbemcfjbchabIAct
import Derived.Deep.RegionLaw
namespace Go.Proofs.Ytcmcbemcfjbchab
open Go.RowKit
open M (OpD NodeD Gr InsD)
set_option linter.unusedVariables false
set_option linter.unusedSimpArgs false

/-! ### throw -/
set_option maxRecDepth 100000 in
set_option maxHeartbeats 8000000 in
theorem throw_any (K L : Nat → Prop) (b : Nat) (s : MSt) (x : InsD) (sa : Option Addr) (sc : Nat) (ia : Option Addr) (il ic : Nat) (I : Nat → Int) (most : Int) (ka : Option Addr) (kc : Nat) (la : Option Addr) (lc : Nat) (w : World) (hA : MacA K L w b s.nx ia il ic most ka kc la lc) (hp : AP most s) (hthr : s.throws ≤ 1048576) (hx : x.kind = 8) :
    Calls Try.prog 206 #[.pointer (some ⟨b, 0, none⟩), insV x sa sc] w (ActIs (s.act x il I most) K L b ia il ic most w) := by
  have HA : Hid (MacA K L w b s.nx ia il ic most ka kc la lc) := hA
  have HP : Hid (AP most s) := hp
  unfold insV
  have HE : Hid (s.act x il I most = if s.inNot then s.fail else if x.to < 0 then ({ s with throws := s.throws + 1, label := x.arg }).fin 2 else ({ s with throws := s.throws + 1 }).enter x most) := by
    show _ = _
    unfold MSt.act
    simp only [hx]
    simp
  obtain ⟨nn, hnn⟩ : ∃ nn, s.inNot = nn := ⟨_, rfl⟩
  have HNN : Hid (s.nx.inNot = nn) := hnn
  have HE2 := HE.out
  rw [hnn] at HE2
  obtain ⟨T, hT⟩ : ∃ T, s.act x il I most = T := ⟨_, rfl⟩
  rw [hT] at HE2 ⊢
  have HT : Hid (T = if nn = true then s.fail else if x.to < 0 then ({ s with throws := s.throws + 1, label := x.arg }).fin 2 else ({ s with throws := s.throws + 1 }).enter x most) := HE2
  clear hA hp hx hnn HE2 HE hT
  go_enter Try.func206, Try.ntmps206
  go_wp2_with fail
  refine (inside_any K L b s.nx ia il ic most ka kc la lc _ (HA.out.later (bel1 w _)) HP.out.len').mono ?_
  rintro e W ⟨rfl, hb⟩
  rw [HNN.out]
  have HAW : Hid (MacA K L W b s.nx ia il ic most ka kc la lc) := HA.out.later (bel_tr (bel1 w _) hb)
  have HW : Hid (Below w.heap.size w W) := bel_tr (bel1 w _) hb
  have x0 := cell_on (a := ⟨w.heap.size, 0, none⟩) (v := .int .i64 x.kind) (cN w.heap.size rfl rfl) hb
  have x1 := cell_on (a := ⟨w.heap.size, 1, none⟩) (v := .int .i64 x.arg) (cN w.heap.size rfl rfl) hb
  have x2 := cell_on (a := ⟨w.heap.size, 2, none⟩) (v := .int .i64 x.to) (cN w.heap.size rfl rfl) hb
  have x3 := cell_on (a := ⟨w.heap.size, 3, none⟩) (v := .slice sa x.sl sc) (cN w.heap.size rfl rfl) hb
  have lw : w.heap.size < W.heap.size := lt_of_cell x0
  have d9 : W.cell? ⟨b, 264, none⟩ = some (.int .i64 (s.throws : Int)) := HAW.out.c.c9
  have d10 : W.cell? ⟨b, 265, none⟩ = some (.int .i64 s.label) := HAW.out.c.c10
  have f9 := HAW.out.c.fz 264
  have f10 := HAW.out.c.fz 265
  have lbW := HAW.out.bl
  have lbw := HA.out.bl
  have hne : b ≠ w.heap.size := by omega
  clear hb
  cases nn with
  | true =>
    have HT2 : Hid (T = s.fail) := by show _ = _; rw [HT.out, if_pos rfl]
    clear HT
    go_wp2_with fail
    refine (fail_any K L b s.nx ia il ic most ka kc la lc _ HAW.out HP.out.len' HP.out.done HP.out.last HP.out.kinds).mono ?_
    rintro e W9 hact
    obtain ⟨he, hact⟩ := hact
    subst he
    have HACT : Hid (ActIs (MSt.fail s.nx) K L b ia il ic most _ _ W9) := ⟨rfl, hact⟩
    clear hact
    go_wp2
    go_ret
    rw [HT2.out]
    exact (HACT.out.below HW.out).fail
  | false =>
    have HA3 : Hid (MacA K L (W.setCell ⟨b, 264, none⟩ (.int .i64 ((s.throws : Int) + 1))) b (MSt.nx { s with throws := s.throws + 1 }) ia il ic most ka kc la lc) := by
      have h := HAW.out.put (s' := MSt.nx { s with throws := s.throws + 1 }) ((Only.refl _ W).set b 264 (.int .i64 ((s.throws + 1 : Nat) : Int)) rfl) rfl rfl (HAW.out.c.set9 (s.throws + 1))
      rw [Int.natCast_add, Int.natCast_one] at h
      exact h
    have HK3 : Hid (Kept (fun y => K y ∨ L y ∨ y = b) w (W.setCell ⟨b, 264, none⟩ (.int .i64 ((s.throws : Int) + 1)))) := kept_wide (kept_set (Kept.of HW.out) 264 _) (fun y h => .inr (.inr h))
    by_cases hto : x.to < 0
    · have HT2 : Hid (T = ({ s with throws := s.throws + 1, label := x.arg } : MSt).fin 2) := by show _ = _; rw [HT.out, if_neg (by decide), if_pos hto]
      clear HT
      go_wp2
      go_ret
      rw [HT2.out]
      have h4 : MacA K L ((W.setCell ⟨b, 264, none⟩ (.int .i64 ((s.throws : Int) + 1))).setCell ⟨b, 265, none⟩ (.int .i64 x.arg)) b (MSt.nx { s with throws := s.throws + 1, label := x.arg }) ia il ic most ka kc la lc := HA3.out.put ((Only.refl _ _).set b 265 _ rfl) rfl rfl (HA3.out.c.set10 x.arg)
      exact act_over (t := ({ s with throws := s.throws + 1, label := x.arg } : MSt).fin 2) h4 (kept_trans HK3.out (kept_wide (kept_set (kept_refl _ _) 265 _) (fun y h => .inr (.inr h)))) rfl ⟨_, _, rfl⟩
    · have hto' : ¬ x.to < 0 := hto
      have HT2 : Hid (T = MSt.enter { s with throws := s.throws + 1 } x most) := by show _ = _; rw [HT.out, if_neg (by decide), if_neg hto]
      clear HT
      have hap : AP most { s with throws := s.throws + 1 } := ⟨HP.out.m1, HP.out.len, HP.out.last, HP.out.kinds, HP.out.logl, HP.out.done⟩
      go_wp2_with fail
      refine (call_any K L b { s with throws := s.throws + 1 } x sa sc ia il ic I most ka kc la lc _ HA3.out hap).mono ?_
      rintro e W9 hact
      obtain ⟨he, hact⟩ := hact
      subst he
      have HACT : Hid (ActIs (MSt.enter { s with throws := s.throws + 1 } x most) K L b ia il ic most _ _ W9) := ⟨rfl, hact⟩
      clear hact
      go_wp2
      go_ret
      rw [HT2.out]
      exact HACT.out.from_ HK3.out

/-! ### not -/
theorem enterHere (args : Array Value) (w : World) : (callFunc 226 args).run Try.prog w = .ok (.enter 226 args) w := by
  simp [callFunc, Try.func226, Try.f226, go_sem]
theorem enterPush (args : Array Value) (w : World) : (callFunc 224 args).run Try.prog w = .ok (.enter 224 args) w := by
  simp [callFunc, Try.func224, Try.f224, go_sem]
set_option maxRecDepth 100000 in
set_option maxHeartbeats 8000000 in
theorem not_any (K L : Nat → Prop) (b : Nat) (s : MSt) (x : InsD) (sa : Option Addr) (sc : Nat) (ia : Option Addr) (il ic : Nat) (I : Nat → Int) (most : Int) (ka : Option Addr) (kc : Nat) (la : Option Addr) (lc : Nat) (w : World) (hA : MacA K L w b s.nx ia il ic most ka kc la lc) (hp : AP most s) (hx : x.kind = 4) :
    Calls Try.prog 202 #[.pointer (some ⟨b, 0, none⟩), insV x sa sc] w (ActIs (s.act x il I most) K L b ia il ic most w) := by
  have HP : Hid (AP most s) := hp
  have HE : Hid (s.act x il I most = (s.nx).push ⟨1, x.to, s.pos, s.log.length⟩ most) := by
    show _ = _
    unfold MSt.act
    simp only [hx]
    simp [MSt.hold, MSt.nx]
  rw [HE.out]
  unfold insV
  have HA : Hid (MacA K L w b s.nx ia il ic most ka kc la lc) := hA
  clear hA hp hx
  go_enter Try.func202, Try.ntmps202
  go_wp2
  have hX := bel1 w (.cells #[.int .i64 x.kind, .int .i64 x.arg, .int .i64 x.to, .slice sa x.sl sc] 129)
  have x2 : (w.alloc (.cells #[.int .i64 x.kind, .int .i64 x.arg, .int .i64 x.to, .slice sa x.sl sc] 129)).cell? ⟨w.heap.size, 2, none⟩ = some (.int .i64 x.to) := cN w.heap.size rfl rfl
  generalize w.alloc (.cells #[.int .i64 x.kind, .int .i64 x.arg, .int .i64 x.to, .slice sa x.sl sc] 129) = X at *
  have HX : Hid (Below w.heap.size w X) := hX
  have HAX : Hid (MacA K L X b s.nx ia il ic most ka kc la lc) := HA.out.later hX
  have HX2 : Hid (∀ W, Below X.heap.size X W → W.cell? ⟨w.heap.size, 2, none⟩ = some (.int .i64 x.to)) := fun W hW => cell_on x2 hW
  clear hX
  go_region_with (first
    | (go_at_call 226
       refine (here_any b s.pos s.log.length lc la _ (HAX.out.later (Below.refl _ X).drew).c.c3 (HAX.out.later (Below.refl _ X).drew).c.c5).mono ?_
       rintro e W ⟨rfl, hb⟩
       have y2 := HX2.out W (bel_tr (Below.refl _ X).drew hb)
       have HAW : Hid (MacA K L W b s.nx ia il ic most ka kc la lc) := HAX.out.later (bel_tr (Below.refl _ X).drew hb)
       have HBW : Hid (Below X.heap.size X W) := bel_tr (Below.refl _ X).drew hb
       clear hb)
    | (go_at_call 224
       refine (push_any K L b s.nx ⟨1, x.to, s.pos, s.log.length⟩ _ _ ia il ic most ka kc la lc _ HAW.out HP.out.len' HP.out.len HP.out.done (by unfold frC; simp)).mono ?_
       rintro e W9 hact
       obtain ⟨he, hact⟩ := hact
       subst he
       have HACT : Hid (ActIs (MSt.push s.nx ⟨1, x.to, s.pos, s.log.length⟩ most) K L b ia il ic most _ _ W9) := ⟨rfl, hact⟩
       clear hact))
  all_goals
    go_wp2
    go_ret
    exact (HACT.out.below HBW.out).below HX.out

/-! ### logging -/
theorem iinfoEv : (Try.prog.info? 153).map (fun i => (i.zero, i.size, i.bytes)) = some (some (.agg #[.int .i64 0, .int .i64 0, .int .i64 0]), 3, 24) := by kernel_rfl
theorem ielemEv : ElemT 58 153 3 24 := ⟨Try.underlying58, ⟨_, iinfoEv, rfl⟩, by omega⟩
def evO (e : EvD) : Obj := .cells #[.int .i64 e.kind, .int .i64 e.arg, .int .i64 e.pos] 153
theorem isrc_ev (w : World) (e : EvD) : Src Try.prog 3 58 (.slice (some ⟨w.heap.size, 0, none⟩) 1 1) 1 (evv e) (w.alloc (evO e)) := by
  refine Src.ofSlice (P := Try.prog) _ Try.underlying58 ⟨w.heap.size, 0, none⟩ 1 1 (evv e) rfl (fun j u hu => ?_) (fun u hu => ?_)
  · have e' : (⟨w.heap.size, 0, none⟩ : Addr).add j = ⟨w.heap.size, j, none⟩ := by
      by_cases h0 : j = 0
      · subst h0; simp [Addr.add]
      · simp [Addr.add, h0]
    rw [e']
    match j, hu with
    | 0, hu => exact cN w.heap.size rfl hu
    | 1, hu => exact cN w.heap.size rfl hu
    | 2, hu => exact cN w.heap.size rfl hu
    | j + 3, hu => simp [evv] at hu
  · simp [evv] at hu
    rcases hu with rfl | rfl | rfl <;> rfl
/-- The event's append, as a step of a drawn region. -/
theorem evT {ops : Array Oper} {o : Oper} {a : Act} {w : World} {K : Act → World → Prop} {P' : Exit → Act → World → Prop} {E : Prop} (hgd : o.guard = none) (s x : Operand) (ho : o.op = .call { callee := .builtin .append, args := #[s, x], argTypes := #[58, 58] })
    {L : Nat → Prop} {w1 : World} {v y : Value} {m : Nat} {cs : List Value} {d : EvD} (hs : a.eval s = v) (hx : a.eval x = y) (hy : y = .slice (some ⟨w1.heap.size, 0, none⟩) 1 1) (hw : w = w1.alloc (evO d)) (h : OwnC L w1 v 3 m cs) (hlt : ∀ b, L b → b < w1.heap.size) (hl : m ≤ 4194304)
    (k : ∀ w' a' c', Hid (OwnC (fun b => L b ∨ (w1.alloc (evO d)).heap.size ≤ b) w' (.slice a' (m + 1) c') 3 (m + 1) (cs ++ evv d)) → Hid (Grew (fun b => L b) (w1.alloc (evO d)) w') → K (a.put o.dst (.slice a' (m + 1) c')) w') : if Region.wanted o (yielded ops a.tmps) = true then Oper.wp Try.prog o a w K P' else E := by
  subst hw hy
  have b1 := bel1 w1 (evO d)
  refine stepC hgd s x 58 58 ho hs hx ielemEv (h.on (fun b hb => b1.block b (hlt b hb))) (isrc_ev w1 d) (by omega) (fun _ => Nat.one_pos) ?_
  intro v' w' k1 k2 k3
  obtain ⟨a', c', rfl⟩ := own_shape k1
  exact k w' a' c' k1 k2
theorem act_put {K L : Nat → Prop} {b : Nat} {s : MSt} {k a : Int} {ia : Option Addr} {il ic : Nat} {most : Int} {ka : Option Addr} {kc : Nat} {la : Option Addr} {lc : Nat} {w Y W : World} {a' : Option Addr} {c' : Nat} (hA : MacA K L w b s.nx ia il ic most ka kc la lc) (hd : s.done = false) (hY : Below w.heap.size w Y) (hG : Grew (fun x => L x) Y W)
    (hO : OwnC (fun x => L x ∨ Y.heap.size ≤ x) W (.slice a' (s.log.length + 1) c') 3 (s.log.length + 1) (cellsE s.log ++ evv ⟨k, a, s.pos⟩)) :
    ActIs (s.put k a) K L b ia il ic most w (.returned (.int .i64 (-1))) (W.setCell ⟨b, 5, none⟩ (.slice a' (s.log.length + 1) c')) := by
  have hbl := hA.bl
  have hys := hY.size
  have hgs := hG.size
  have blk : ∀ x, x < w.heap.size → ¬ L x → W.heap[x]? = w.heap[x]? := fun x hx hk => (hG.block x (by omega) hk).trans (hY.block x hx)
  have hb : W.heap[b]? = w.heap[b]? := blk b hbl hA.lb
  refine ⟨by unfold rcode; simp [MSt.put, hd], s.at_ + 1, s.st, ka, kc, a', c', K, fun x => (L x ∨ Y.heap.size ≤ x) ∧ x < W.heap.size, fun _ => ⟨rfl, rfl⟩, ⟨?_, ?_, ?_, ?_, ?_, hA.kb, ?_⟩, fun x hx => .inl hx, ?_, ?_⟩
  · show MacC _ b _ ia il ic most ka s.st.length kc a' (s.log ++ [_]).length c'
    rw [List.length_append, List.length_singleton]
    have h := (hA.c.on hb).set5 a' (s.log.length + 1) c'
    exact h.re rfl rfl rfl rfl rfl rfl rfl
  · exact hA.st.on (fun x hx => (Below.heap_setCell _ _ _ _ (fun e => hA.kb (by simp at e; exact e ▸ hx))).trans (blk x (hA.lt x (.inl hx)) (fun q => hA.kl x hx q)))
  · show OwnC _ _ (.slice a' (s.log ++ [_]).length c') 3 (s.log ++ [_]).length (cellsE (s.log ++ [_]))
    rw [cellsE_snoc, List.length_append, List.length_singleton]
    rcases hO with ⟨e, _⟩ | ⟨g, cap, e, hq, h3, h4, h5, h6⟩
    · injection e with _ e2; exact absurd e2 (by omega)
    · have hlt : g < W.heap.size := by
        obtain ⟨u, hu⟩ := Option.isSome_iff_exists.1 (h6 0 (by omega)).1
        exact lt_of_cell hu
      have hne : g ≠ b := fun e => by
        subst e
        rcases hq with q | q
        · exact hA.lb q
        · omega
      have hk : (W.setCell ⟨b, 5, none⟩ (.slice a' (s.log.length + 1) c')).heap[g]? = W.heap[g]? := Below.heap_setCell _ _ _ _ hne
      exact .inr ⟨g, cap, e, ⟨hq, hlt⟩, h3, h4, fun j hj => (World.cell?_of_block (a := ⟨g, j, none⟩) hk).trans (h5 j hj), h6.later hk⟩
  · intro x hx
    rw [size_set]
    rcases hx with q | q
    · have := hA.lt x (.inl q); omega
    · exact q.2
  · rintro x h ⟨q | q, _⟩
    · exact hA.kl x h q
    · have := hA.lt x (.inl h); omega
  · rintro ⟨q | q, _⟩
    · exact hA.lb q
    · omega
  · rintro x ⟨q | q, h⟩
    · exact .inl q
    · exact .inr ⟨by omega, by rw [size_set]; exact h⟩
  · refine ⟨hG.os.trans hY.os, hG.tape.trans hY.tape, hG.output.trans hY.output, by rw [size_set]; omega, fun x hx hn => (Below.heap_setCell _ _ _ _ (fun e => hn (.inr (.inr e)))).trans (blk x hx (fun q => hn (.inr (.inl q))))⟩

set_option maxRecDepth 100000 in
set_option maxHeartbeats 8000000 in
theorem logging_any (K L : Nat → Prop) (b kb : Nat) (kd : Int) (s : MSt) (x : InsD) (sa : Option Addr) (sc : Nat) (ia : Option Addr) (il ic : Nat) (most : Int) (ka : Option Addr) (kc : Nat) (la : Option Addr) (lc : Nat) (w : World) (hA : MacA K L w b s.nx ia il ic most ka kc la lc) (hp : AP most s) (hk : w.cell? ⟨kb, 0, none⟩ = some (.int .i64 kd)) (hkl : ¬ L kb) :
    Calls Try.prog 228 #[.pointer (some ⟨b, 0, none⟩), insV x sa sc, .pointer (some ⟨kb, 0, none⟩)] w (ActIs (s.put kd x.arg) K L b ia il ic most w) := by
  have HA : Hid (MacA K L w b s.nx ia il ic most ka kc la lc) := hA
  have HP : Hid (AP most s) := hp
  have hll := hp.logl
  unfold insV
  clear hA hp
  go_enter Try.func228, Try.ntmps228
  go_wp2
  have hX := bel1 w (.cells #[.int .i64 x.kind, .int .i64 x.arg, .int .i64 x.to, .slice sa x.sl sc] 129)
  have x1 : (w.alloc (.cells #[.int .i64 x.kind, .int .i64 x.arg, .int .i64 x.to, .slice sa x.sl sc] 129)).cell? ⟨w.heap.size, 1, none⟩ = some (.int .i64 x.arg) := cN w.heap.size rfl rfl
  have hxs : (w.alloc (.cells #[.int .i64 x.kind, .int .i64 x.arg, .int .i64 x.to, .slice sa x.sl sc] 129)).heap.size = w.heap.size + 1 := by simp
  generalize w.alloc (.cells #[.int .i64 x.kind, .int .i64 x.arg, .int .i64 x.to, .slice sa x.sl sc] 129) = X at *
  have HX : Hid (Below w.heap.size w X) := hX
  have HAX : Hid (MacA K L X b s.nx ia il ic most ka kc la lc) := HA.out.later hX
  have k0 := cell_on hk hX
  have c3 : X.cell? ⟨b, 3, none⟩ = some (.int .i64 (s.pos : Int)) := HAX.out.c.c3
  have c5 : X.cell? ⟨b, 5, none⟩ = some (.slice la s.log.length lc) := HAX.out.c.c5
  have lbX := HAX.out.bl
  have lkX : kb < X.heap.size := lt_of_cell k0
  have lwX : w.heap.size < X.heap.size := by omega
  obtain ⟨ln, hln⟩ : ∃ ln, s.log.length = ln := ⟨_, rfl⟩
  have HLN : Hid (s.log.length = ln) := hln
  rw [hln] at c5 hll
  have HOL : Hid (OwnC L X.drew (.slice la ln lc) 3 ln (cellsE s.log)) := by
    have h := HAX.out.log
    rw [show s.nx.log.length = ln from hln] at h
    exact h.on (fun y hy => rfl)
  have HLT : Hid (∀ y, L y → y < X.drew.heap.size) := fun y hy => HAX.out.lt y (.inr hy)
  have HBK : Hid (∀ W o, Grew (fun y => L y) (X.drew.alloc o) W → W.cell? ⟨b, 5, none⟩ = some (.slice la ln lc) ∧ W.frozen? ⟨b, 5, none⟩ = false) := fun W o hG => by
    have e : W.heap[b]? = X.heap[b]? := (hG.block b (by simp; omega) HA.out.lb).trans (Below.heap_alloc X.drew _ _ lbX)
    exact ⟨(World.cell?_of_block (a := ⟨b, 5, none⟩) e).trans (by have := HAX.out.c.c5; rw [show s.nx.log.length = ln from hln] at this; exact this), (World.frozen?_of_block (a := ⟨b, 5, none⟩) e).trans (HAX.out.c.fz 5)⟩
  clear hk hX hxs hln hkl
  go_region_law (first
    | (refine evT rfl (.tmp 10) (.tmp 19) rfl (w1 := X.drew) (L := L) (v := .slice la ln lc) (y := .slice (some ⟨X.heap.size, 0, none⟩) 1 1) (cs := cellsE s.log) (d := ⟨kd, x.arg, s.pos⟩) (by simp [Act.eval, Act.put]) (by simp [Act.eval, Act.put]) rfl rfl HOL.out HLT.out (by omega) ?_
       intro W4 a4 c4 G1 G2
       obtain ⟨r5, v5⟩ := HBK.out W4 _ G2.out))
  all_goals go_goals
  all_goals go_wp2
  all_goals go_ret
  all_goals
    have hO := G1.out
    rw [← HLN.out] at hO ⊢
    exact (act_put (Y := X.drew.alloc (evO ⟨kd, x.arg, s.pos⟩)) HA.out HP.out.done (bel_tr HX.out (bel_tr (Below.refl _ X).drew (bel1 X.drew _))) G2.out hO)

end Go.Proofs.Ytcmcbemcfjbchab
