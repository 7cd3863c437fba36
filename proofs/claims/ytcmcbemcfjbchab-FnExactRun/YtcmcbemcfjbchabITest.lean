/-
  Walks: the program's action test.
-/
import Derived.Test.YtcmcbemcfjbchabIAct
import Derived.BigQuiet
namespace Go.Proofs.Ytcmcbemcfjbchab
open Go.RowKit
open M (OpD NodeD Gr InsD)
set_option linter.unusedVariables false
set_option linter.unusedSimpArgs false

theorem tells_in {ι : Type} {F : ι → World} {w : World} {f : FuncId} {args : Array Value} {n : ι} {v : Bool} (hF : Below w.heap.size w (F n)) (hF' : ∀ W, Below w.heap.size w W → ∃ n, W = F n)
    (h : Calls Try.prog f args (F n) (TellsB v (F n))) : Calls Try.prog f args (F n) fun e w'' => e = .returned (.bool v) ∧ ∃ m, w'' = F m :=
  h.mono fun e W q => ⟨q.1, hF' W (bel_tr hF q.2)⟩

theorem inote_st (s : MSt) (n : Nat) (S : Nat → Int) : (s.note n S).st = s.st := by unfold MSt.note; split <;> (try split) <;> rfl
theorem inote_log (s : MSt) (n : Nat) (S : Nat → Int) : (s.note n S).log = s.log := by unfold MSt.note; split <;> (try split) <;> rfl
theorem note_done (s : MSt) (n : Nat) (S : Nat → Int) : (s.note n S).done = s.done := by unfold MSt.note; split <;> (try split) <;> rfl
theorem note_nx (s : MSt) (n : Nat) (S : Nat → Int) : s.nx.note n S = (s.note n S).nx := by
  unfold MSt.note
  show (if s.far < s.pos then _ else if s.pos = s.far then _ else _) = _
  split
  · rfl
  · split <;> rfl
theorem MacA.kept {K L : Nat → Prop} {w w' : World} {b : Nat} {s s' : MSt} {ia : Option Addr} {il ic : Nat} {most : Int} {ka : Option Addr} {kc : Nat} {la : Option Addr} {lc : Nat} (h : MacA K L w b s ia il ic most ka kc la lc) (ho : Kept (fun x => x = b) w w') (hst : s'.st = s.st) (hlog : s'.log = s.log) (hc : MacC w' b s' ia il ic most ka s.st.length kc la s.log.length lc) : MacA K L w' b s' ia il ic most ka kc la lc := by
  refine ⟨by rw [hst, hlog]; exact hc, ?_, ?_, fun x hx => Nat.lt_of_lt_of_le (h.lt x hx) ho.size, h.kl, h.kb, h.lb⟩
  · rw [hst]; exact h.st.on (fun x hx => ho.block x (h.lt x (.inl hx)) (fun e => h.kb (e ▸ hx)))
  · rw [hlog]; exact h.log.on (fun x hx => ho.block x (h.lt x (.inr hx)) (fun e => h.lb (e ▸ hx)))

set_option maxRecDepth 100000 in
set_option maxHeartbeats 8000000 in
theorem test_any (K L Q Q' : Nat → Prop) (b : Nat) (s : MSt) (x : InsD) (sa : Option Addr) (sc : Nat) (ia : Option Addr) (il ic : Nat) (I : Nat → Int) (most : Int) (ka : Option Addr) (kc : Nat) (la : Option Addr) (lc : Nat) (w : World) (hA : MacA K L w b s.nx ia il ic most ka kc la lc) (hp : AP most s) (hx : x.kind = 0)
    (hS : Ints Q .i64 w sa x.sl x.set) (hsl : x.sl ≤ 1048576) (hI : Ints Q' .u8 w ia il I) (hB : Byt il I) (hil : il ≤ 1048576) (hq : ¬ Q b) (hqk : ∀ y, Q y → y < w.heap.size) :
    Calls Try.prog 198 #[.pointer (some ⟨b, 0, none⟩), insV x sa sc] w (ActIs (s.act x il I most) K L b ia il ic most w) := by
  have HA : Hid (MacA K L w b s.nx ia il ic most ka kc la lc) := hA
  have HP : Hid (AP most s) := hp
  have HS : Hid (Ints Q .i64 w sa x.sl x.set) := hS
  have HI : Hid (Ints Q' .u8 w ia il I) := hI
  have HBY : Hid (Byt il I) := hB
  have HQ : Hid (¬ Q b) := hq
  have HQK : Hid (∀ y, Q y → y < w.heap.size) := hqk
  unfold insV
  have HE : Hid (s.act x il I most = s.test x.sl x.set il I) := by
    show _ = _
    unfold MSt.act
    simp only [hx]
    simp
  obtain ⟨T, hT⟩ : ∃ T, s.act x il I most = T := ⟨_, rfl⟩
  have HT : Hid (T = s.test x.sl x.set il I) := by show _ = _; rw [← hT, HE.out]
  rw [hT]
  clear hA hp hx hS hI hB hq hqk hT HE
  go_enter Try.func198, Try.ntmps198
  go_wp2
  have hX := bel1 w (.cells #[.int .i64 x.kind, .int .i64 x.arg, .int .i64 x.to, .slice sa x.sl sc] 129)
  have x3 : (w.alloc (.cells #[.int .i64 x.kind, .int .i64 x.arg, .int .i64 x.to, .slice sa x.sl sc] 129)).cell? ⟨w.heap.size, 3, none⟩ = some (.slice sa x.sl sc) := cN w.heap.size rfl rfl
  generalize w.alloc (.cells #[.int .i64 x.kind, .int .i64 x.arg, .int .i64 x.to, .slice sa x.sl sc] 129) = X at *
  have HX : Hid (Below w.heap.size w X) := hX
  have HAX : Hid (MacA K L X b s.nx ia il ic most ka kc la lc) := HA.out.later hX
  have lwX : w.heap.size < X.heap.size := lt_of_cell x3
  have HX3 : Hid (X.cell? ⟨w.heap.size, 3, none⟩ = some (.slice sa x.sl sc)) := x3
  obtain ⟨ι, hne, F, hF, hF'⟩ := family X
  have f3 : ∀ n, (F n).cell? ⟨b, 3, none⟩ = some (.int .i64 (s.pos : Int)) := fun n => cell_on HAX.out.c.c3 (hF n)
  have f0 : ∀ n, (F n).cell? ⟨b, 0, none⟩ = some (.slice ia il ic) := fun n => cell_on HAX.out.c.c0 (hF n)
  have g3 : ∀ n, (F n).cell? ⟨w.heap.size, 3, none⟩ = some (.slice sa x.sl sc) := fun n => cell_on x3 (hF n)
  have HC : Hid (∃ n, X.drew = F n) := hF' _ (Below.refl _ X).drew
  have HF : Hid (∀ n, Below X.heap.size X (F n)) := hF
  have HF' : Hid (∀ W, Below X.heap.size X W → ∃ n, W = F n) := hF'
  clear hF hF' hX x3
  by_cases hlt : s.pos < il
  · have hpos : s.pos ≤ 1048576 := by omega
    obtain ⟨ib, io, rfl, hiq, hIc⟩ := HI.out.resolve_left (by omega)
    have i0 : ∀ n, (F n).cell? ⟨ib, io + s.pos, none⟩ = some (.int .u8 (I s.pos)) := fun n => cell_on (cell_on (hIc s.pos hlt) HX.out) (HF.out n)
    have hby := HBY.out s.pos hlt
    have hlt' : (s.pos : Int) < (il : Int) := by omega
    obtain ⟨u, hu⟩ : ∃ u, I s.pos = u := ⟨_, rfl⟩
    rw [hu] at hby i0
    have HU : Hid (I s.pos = u) := hu
    obtain ⟨hh, hhv⟩ : ∃ hh, hasN x.sl x.set u = hh := ⟨_, rfl⟩
    have HH : Hid (hasN x.sl x.set u = hh) := hhv
    clear hu hhv hIc
    refine region_family F (by kernel_rfl) (by kernel_rfl) HC.out ?_
    repeat (go_big_quiet_step (first | (go_at_call 220; exact tells_in (HF.out _) HF'.out (holds_any Q sa x.sl sc x.set u _ hsl ((HS.out.later HX.out).later (HF.out _))))))
    refine wpQuiet_nil ?_
    rintro _ ⟨nq, rfl⟩
    have v3 := g3 nq
    have hbv := HF.out nq
    have HV : Hid (MacA K L (F nq) b s.nx (some ⟨ib, io, none⟩) il ic most ka kc la lc) := HAX.out.later hbv
    have HBV : Hid (Below w.heap.size w (F nq)) := bel_tr HX.out hbv
    clear f3 f0 g3 hbv i0
    generalize F nq = V at *
    have lwV : w.heap.size < V.heap.size := lt_of_cell v3
    rw [HH.out]
    cases hh with
    | true =>
      have HT2 : Hid (T = { s with pos := s.pos + 1, at_ := s.at_ + 1 }) := by
        show _ = _
        rw [HT.out]
        unfold MSt.test
        rw [if_pos ⟨hlt, by rw [HU.out]; exact HH.out⟩]
      have d3 : V.cell? ⟨b, 3, none⟩ = some (.int .i64 (s.pos : Int)) := HV.out.c.c3
      have e3 := HV.out.c.fz 3
      have lbV := HV.out.bl
      clear HT HH v3
      go_wp2
      go_ret
      rw [HT2.out]
      have h3 : MacA K L (V.setCell ⟨b, 3, none⟩ (.int .i64 ((s.pos : Int) + 1))) b { s with pos := s.pos + 1, at_ := s.at_ + 1 } (some ⟨ib, io, none⟩) il ic most ka kc la lc := by
        have h := HV.out.put (s' := { s with pos := s.pos + 1, at_ := s.at_ + 1 }) ((Only.refl _ V).set b 3 (.int .i64 ((s.pos + 1 : Nat) : Int)) rfl) rfl rfl (HV.out.c.set3 (s.pos + 1))
        rw [Int.natCast_add, Int.natCast_one] at h
        exact h
      exact act_on h3 (kept_wide (kept_set (Kept.of HBV.out) 3 _) (fun y h => .inr (.inr h))) HP.out.done
    | false =>
      have HTF : Hid (T = (if s.inNot then s else s.note x.sl x.set).fail) := by
        show _ = _
        rw [HT.out]
        unfold MSt.test
        rw [if_neg (fun q => by have := q.2; rw [HU.out, HH.out] at this; cases this)]
      clear HT HH
      go_wp2_with fail
      refine (inside_any K L b s.nx (some ⟨ib, io, none⟩) il ic most ka kc la lc _ HV.out HP.out.len').mono ?_
      rintro e V2 ⟨rfl, hb⟩
      rw [show s.nx.inNot = s.inNot from rfl]
      have HV2 : Hid (MacA K L V2 b s.nx (some ⟨ib, io, none⟩) il ic most ka kc la lc) := HV.out.later hb
      have HB2 : Hid (Below w.heap.size w V2) := bel_tr HBV.out hb
      have y3 := cell_on v3 hb
      have lw2 : w.heap.size < V2.heap.size := lt_of_cell y3
      clear hb v3
      cases hin : s.inNot with
      | true =>
        have HT2 : Hid (T = s.fail) := by show _ = _; rw [HTF.out, hin, if_pos rfl]
        clear hin
        go_wp2_with fail
        refine (fail_any K L b s.nx (some ⟨ib, io, none⟩) il ic most ka kc la lc _ HV2.out HP.out.len' HP.out.done HP.out.last HP.out.kinds).mono ?_
        rintro e W9 hact
        obtain ⟨he, hact⟩ := hact
        subst he
        have HACT : Hid (ActIs (MSt.fail s.nx) K L b (some ⟨ib, io, none⟩) il ic most _ _ W9) := ⟨rfl, hact⟩
        clear hact
        go_wp2
        go_ret
        rw [HT2.out]
        exact (HACT.out.below HB2.out).fail
      | false =>
        have HT2 : Hid (T = (s.note x.sl x.set).fail) := by show _ = _; rw [HTF.out, hin, if_neg (by decide)]
        clear hin
        go_wp2_with fail
        refine (note_any Q b s.nx (some ⟨ib, io, none⟩) il ic most ka s.st.length kc la s.log.length lc sa x.sl sc x.set _ HV2.out.c (HS.out.later HB2.out) HQ.out (fun y hy => Nat.lt_of_lt_of_le (HQK.out y hy) HB2.out.size) hsl).mono ?_
        rintro e W3 hno
        obtain ⟨v, rfl⟩ := hno.val
        have HA3 : Hid (MacA K L W3 b (MSt.nx (s.note x.sl x.set)) (some ⟨ib, io, none⟩) il ic most ka kc la lc) := by
          have hc := hno.c
          rw [note_nx] at hc
          exact HV2.out.kept hno.kept (inote_st _ _ _) (inote_log _ _ _) hc
        have HK3 : Hid (Kept (fun y => K y ∨ L y ∨ y = b) w W3) := kept_wide (kept_trans (Kept.of HB2.out) hno.kept) (fun y h => .inr (.inr h))
        clear hno
        go_wp2_with fail
        refine (fail_any K L b (MSt.nx (s.note x.sl x.set)) (some ⟨ib, io, none⟩) il ic most ka kc la lc _ HA3.out (by rw [show (MSt.nx (s.note x.sl x.set)).st = s.st from inote_st _ _ _]; exact HP.out.len') (by rw [show (MSt.nx (s.note x.sl x.set)).done = s.done from note_done _ _ _]; exact HP.out.done) (by rw [show (MSt.nx (s.note x.sl x.set)).st = s.st from inote_st _ _ _, show (MSt.nx (s.note x.sl x.set)).log = s.log from inote_log _ _ _]; exact HP.out.last) (by rw [show (MSt.nx (s.note x.sl x.set)).st = s.st from inote_st _ _ _]; exact HP.out.kinds)).mono ?_
        rintro e W9 hact
        obtain ⟨he, hact⟩ := hact
        subst he
        have HACT : Hid (ActIs (MSt.fail (MSt.nx (s.note x.sl x.set))) K L b (some ⟨ib, io, none⟩) il ic most _ _ W9) := ⟨rfl, hact⟩
        clear hact
        go_wp2
        go_ret
        rw [HT2.out]
        exact (HACT.out.from_ HK3.out).fail
  · have hlt' : ¬ (s.pos : Int) < (il : Int) := by omega
    have HTF : Hid (T = (if s.inNot then s else s.note x.sl x.set).fail) := by
      show _ = _
      rw [HT.out]
      unfold MSt.test
      rw [if_neg (fun q => hlt q.1)]
    refine region_family F (by kernel_rfl) (by kernel_rfl) HC.out ?_
    repeat (go_big_quiet_step (fail))
    refine wpQuiet_nil ?_
    rintro _ ⟨nq, rfl⟩
    have v3 := g3 nq
    have hbv := HF.out nq
    have HV : Hid (MacA K L (F nq) b s.nx ia il ic most ka kc la lc) := HAX.out.later hbv
    have HBV : Hid (Below w.heap.size w (F nq)) := bel_tr HX.out hbv
    clear f3 f0 g3 hbv 
    generalize F nq = V at *
    have lwV : w.heap.size < V.heap.size := lt_of_cell v3
    go_wp2_with fail
    refine (inside_any K L b s.nx ia il ic most ka kc la lc _ HV.out HP.out.len').mono ?_
    rintro e V2 ⟨rfl, hb⟩
    rw [show s.nx.inNot = s.inNot from rfl]
    have HV2 : Hid (MacA K L V2 b s.nx ia il ic most ka kc la lc) := HV.out.later hb
    have HB2 : Hid (Below w.heap.size w V2) := bel_tr HBV.out hb
    have y3 := cell_on v3 hb
    have lw2 : w.heap.size < V2.heap.size := lt_of_cell y3
    clear hb v3
    cases hin : s.inNot with
    | true =>
      have HT2 : Hid (T = s.fail) := by show _ = _; rw [HTF.out, hin, if_pos rfl]
      clear hin
      go_wp2_with fail
      refine (fail_any K L b s.nx ia il ic most ka kc la lc _ HV2.out HP.out.len' HP.out.done HP.out.last HP.out.kinds).mono ?_
      rintro e W9 hact
      obtain ⟨he, hact⟩ := hact
      subst he
      have HACT : Hid (ActIs (MSt.fail s.nx) K L b ia il ic most _ _ W9) := ⟨rfl, hact⟩
      clear hact
      go_wp2
      go_ret
      rw [HT2.out]
      exact (HACT.out.below HB2.out).fail
    | false =>
      have HT2 : Hid (T = (s.note x.sl x.set).fail) := by show _ = _; rw [HTF.out, hin, if_neg (by decide)]
      clear hin
      go_wp2_with fail
      refine (note_any Q b s.nx ia il ic most ka s.st.length kc la s.log.length lc sa x.sl sc x.set _ HV2.out.c (HS.out.later HB2.out) HQ.out (fun y hy => Nat.lt_of_lt_of_le (HQK.out y hy) HB2.out.size) hsl).mono ?_
      rintro e W3 hno
      obtain ⟨v, rfl⟩ := hno.val
      have HA3 : Hid (MacA K L W3 b (MSt.nx (s.note x.sl x.set)) ia il ic most ka kc la lc) := by
        have hc := hno.c
        rw [note_nx] at hc
        exact HV2.out.kept hno.kept (inote_st _ _ _) (inote_log _ _ _) hc
      have HK3 : Hid (Kept (fun y => K y ∨ L y ∨ y = b) w W3) := kept_wide (kept_trans (Kept.of HB2.out) hno.kept) (fun y h => .inr (.inr h))
      clear hno
      go_wp2_with fail
      refine (fail_any K L b (MSt.nx (s.note x.sl x.set)) ia il ic most ka kc la lc _ HA3.out (by rw [show (MSt.nx (s.note x.sl x.set)).st = s.st from inote_st _ _ _]; exact HP.out.len') (by rw [show (MSt.nx (s.note x.sl x.set)).done = s.done from note_done _ _ _]; exact HP.out.done) (by rw [show (MSt.nx (s.note x.sl x.set)).st = s.st from inote_st _ _ _, show (MSt.nx (s.note x.sl x.set)).log = s.log from inote_log _ _ _]; exact HP.out.last) (by rw [show (MSt.nx (s.note x.sl x.set)).st = s.st from inote_st _ _ _]; exact HP.out.kinds)).mono ?_
      rintro e W9 hact
      obtain ⟨he, hact⟩ := hact
      subst he
      have HACT : Hid (ActIs (MSt.fail (MSt.nx (s.note x.sl x.set))) K L b ia il ic most _ _ W9) := ⟨rfl, hact⟩
      clear hact
      go_wp2
      go_ret
      rw [HT2.out]
      exact (HACT.out.from_ HK3.out).fail

end Go.Proofs.Ytcmcbemcfjbchab
