/-
  Lines: where a line ends; the library's IndexByte; the sequence of a text's lines.
-/
import Derived.Test.YtcllnadfbmkigaaChars
import Derived.Lib.BytesEntry
namespace Go.Proofs.Ytcllnadfbmkigaa
open Go.RowKit Go.Shelf
set_option linter.unusedVariables false
attribute [local go_sem] Oper.semAt_some

/-- How many bytes stand ahead of the first newline of T 0 .. T (m - 1); m if there is none. -/
def eolen (T : Nat → Int) (m : Nat) : Nat := ((List.range m).map T).findIdx (fun x => x == 10)

theorem eolen_le (T : Nat → Int) (m : Nat) : eolen T m ≤ m := by
  have h := List.findIdx_le_length (xs := (List.range m).map T) (p := fun x => x == 10)
  simpa [eolen] using h
theorem eolen_not (T : Nat → Int) (m j : Nat) (h : j < eolen T m) : T j ≠ 10 := by
  have := List.not_of_lt_findIdx (xs := (List.range m).map T) (p := fun x => x == 10) h
  simpa using this
theorem eolen_at (T : Nat → Int) (m : Nat) (h : eolen T m < m) : T (eolen T m) = 10 := by
  have hl : ((List.range m).map T).findIdx (fun x => x == 10) < ((List.range m).map T).length := by simpa [eolen] using h
  have := List.findIdx_getElem (w := hl)
  simpa [eolen] using this

theorem ix_eq (xs : List Int) (hx : ∀ x ∈ xs, 0 ≤ x ∧ x ≤ 255) :
    Lib.indexByte (Lib.bytesOf xs) 10 = if xs.findIdx (fun x => x == 10) < xs.length then ((xs.findIdx (fun x => x == 10) : Nat) : Int) else -1 := by
  induction xs with
  | nil => simp [Lib.bytesOf, Lib.indexByte]
  | cons a l ih =>
    have ih' := ih (fun x h => hx x (List.mem_cons_of_mem _ h))
    obtain ⟨h0, h1⟩ := hx a (List.mem_cons_self ..)
    have hb : ∀ l', Lib.bytesOf (a :: l') = UInt8.ofNat a.toNat :: Lib.bytesOf l' := fun _ => rfl
    rw [hb]
    unfold Lib.indexByte
    by_cases ha : a = 10
    · subst ha
      simp [List.findIdx_cons]
    · have hne : (UInt8.ofNat a.toNat == 10) = false := by
        rw [beq_eq_false_iff_ne]
        intro e
        have := congrArg UInt8.toNat e
        simp at this
        omega
      have hp : (a == 10) = false := by simp [ha]
      simp only [hne, Bool.false_eq_true, if_false, List.findIdx_cons, hp, cond_false, List.length_cons]
      generalize Lib.indexByte (Lib.bytesOf l) 10 = r at ih' ⊢
      generalize List.findIdx (fun x => x == 10) l = k at ih' ⊢
      by_cases hl : k < l.length
      · rw [if_pos hl] at ih'
        have h2 : (r == -1) = false := by rw [beq_eq_false_iff_ne]; omega
        rw [h2, if_neg (by simp), if_pos (by omega), ih']
        omega
      · rw [if_neg hl] at ih'
        have h2 : (r == -1) = true := by rw [beq_iff_eq]; exact ih'
        rw [h2, if_pos rfl, if_neg (by omega)]

/-- What IndexByte answers for the newline. -/
def nlIx (T : Nat → Int) (n : Nat) : Int := if eolen T n < n then (eolen T n : Nat) else -1

set_option maxHeartbeats 1000000 in
set_option maxRecDepth 100000 in
theorem indexByte_any (b o n c : Nat) (T : Nat → Int) (w : World) (hT : Tx w b o n T) (hb : ∀ i, 0 ≤ T i ∧ T i ≤ 255) :
    Calls Try.prog 16 #[.slice (some ⟨b, o, none⟩) n c, .int .u8 10] w fun e w' => e = .returned (.int .i64 (nlIx T n)) ∧ w' = w := by
  have hc : ∀ i, i < n → w.cell? ⟨b, o + i, none⟩ = some (.int .u8 (((List.range n).map T).getD i 0)) := fun i hi => by
    rw [hT i hi]; simp [hi]
  have HE : Hid (Lib.indexByte (Lib.bytesOf ((List.range n).map T)) 10 = nlIx T n) := by
    show _ = _
    have := ix_eq ((List.range n).map T) (fun x h => by obtain ⟨i, _, rfl⟩ := List.mem_map.1 h; exact hb i)
    simpa [nlIx, eolen] using this
  go_enter Try.func16, Try.ntmps16
  go_wp2
  rw [run_callFunc_extern Try.func20 (by kernel_rfl) (by kernel_rfl) (by kernel_rfl) (e := Extern.BytealgIndexByte.indexByte) (by kernel_rfl), Lib.run_indexByteSlice w b o n c ((List.range n).map T) (by simp) hc 10]
  simp only [Result.andThen]
  rw [Oper.upon_value]
  go_wp2
  go_ret
  exact ⟨ret_int HE.out, rfl⟩

set_option maxHeartbeats 1000000 in
set_option maxRecDepth 100000 in
theorem indexByte_nil (w : World) :
    Calls Try.prog 16 #[.slice none 0 0, .int .u8 10] w fun e w' => e = .returned (.int .i64 (-1)) ∧ w' = w := by
  go_enter Try.func16, Try.ntmps16
  go_wp2
  rw [run_callFunc_extern Try.func20 (by kernel_rfl) (by kernel_rfl) (by kernel_rfl) (e := Extern.BytealgIndexByte.indexByte) (by kernel_rfl), Lib.run_indexByteNil w 0 0 10]
  simp only [Result.andThen]
  rw [Oper.upon_value]
  go_wp2
  go_ret
  exact ⟨rfl, rfl⟩

/-- The text from f on. -/
def sh (T : Nat → Int) (f : Nat) : Nat → Int := fun i => T (f + i)
/-- How long the line is that begins at f. -/
def lnLen (T : Nat → Int) (n f : Nat) : Nat := eolen (sh T f) (n - f)
def lnNext (T : Nat → Int) (n : Nat) (s : Nat × Nat) : Nat × Nat := (s.1 + 1, s.2 + lnLen T n s.2 + 1)
def lnOff (off cap f : Nat) : Nat := if cap = f then off else off + f
def lnEnc (T : Nat → Int) (n : Nat) (adr : Nat → Option Addr) (cap : Nat) (s : Nat × Nat) : Array Value := #[lineV s.1 s.2 (adr s.2) (lnLen T n s.2) (cap - s.2)]

theorem lnLen_le (T : Nat → Int) (n f : Nat) : lnLen T n f ≤ n - f := eolen_le _ _
theorem sh_tx {w : World} {b off n f : Nat} {T : Nat → Int} (h : Tx w b off n T) (hf : f ≤ n) : Tx w b (off + f) (n - f) (sh T f) := fun i hi => by
  rw [Nat.add_assoc]; exact h (f + i) (by omega)

set_option maxRecDepth 100000 in
set_option maxHeartbeats 4000000 in
theorem lines_gives (bx b off n cap : Nat) (T : Nat → Int) (w : World) (hbx : w.cell? ⟨bx, 0, none⟩ = some (.slice (some ⟨b, off, none⟩) n cap)) (hT : Tx w b off n T) (hb : ∀ i, 0 ≤ T i ∧ T i ≤ 255) (hn : n ≤ 1048576) (hcap : n ≤ cap) :
    Gives Try.prog 15 #[.pointer (some ⟨bx, 0, none⟩)] ((1, 0) : Nat × Nat) (fun s => s.2 ≤ n) (lnNext T n) (lnEnc T n (fun f => some ⟨b, lnOff off cap f, none⟩) cap) (fun k => k = bx ∨ (k = b ∧ 0 < n)) w := by
  intro l C J Jx W hsz hD hDC hCW hJ hJx hY h0
  have hdep : Fence.wide.depth = none := rfl
  have hDl : ∀ k, (k = bx ∨ (k = b ∧ 0 < n)) → k < W.heap.size := fun k hk => by
    rcases hk with rfl | ⟨rfl, hm0⟩
    · exact Nat.lt_of_lt_of_le (lt_of_cell hbx) hsz
    · exact Nat.lt_of_lt_of_le (lt_of_cell (hT 0 hm0)) hsz
  refine callsIn_of_wp Try.func15 rfl trivial ?_ rfl
  simp only [Try.ntmps15, List.size_toArray, List.length_cons, List.length_nil, Nat.reduceAdd, Nat.reduceSub, Array.replicate_succ, Array.replicate_zero, List.push_toArray, List.append_toArray, List.nil_append, List.cons_append]
  gi_wp2
  gi_loopw [3, 4] (fun a f wr => ∃ num fr : Nat, a = .int .i64 num ∧ f = .int .i64 fr ∧ num ≤ fr + 1 ∧ fr ≤ n ∧ J (num, fr) wr ∧ W.heap.size ≤ wr.heap.size ∧ ∀ k, (k = bx ∨ (k = b ∧ 0 < n)) → wr.heap[k]? = w.heap[k]?)
    (fun _ f _ => n + 1 - (intOf f).toNat)
  case atStart => exact ⟨1, 0, rfl, rfl, by omega, Nat.zero_le _, h0, Nat.le_refl _, hD⟩
  case round =>
    obtain ⟨num, fr, rfl, rfl, hnum, hfr, hJs, hszr, hDr⟩ := hrel
    have hcx : wr.cell? ⟨bx, 0, none⟩ = some (.slice (some ⟨b, off, none⟩) n cap) := (World.cell?_of_block (a := ⟨bx, 0, none⟩) (hDr bx (.inl rfl))).trans hbx
    have hTr : Tx wr b off n T := sameTx hT (fun h => hDr b (.inr ⟨rfl, h⟩))
    have hfr' : (fr : Int) ≤ n := by omega
    have step : Hid (∀ W3, Keep C wr W3 → ∀ k, (k = bx ∨ (k = b ∧ 0 < n)) → W3.heap[k]? = w.heap[k]?) := fun W3 hk3 k hk =>
      (hk3.block k (Nat.lt_of_lt_of_le (hDl k hk) hszr) (hDC k hk)).trans (hDr k hk)
    have hlast : Hid (lnLen T n fr = n - fr → ¬ (lnNext T n (num, fr)).2 ≤ n) := fun h => by show ¬ fr + lnLen T n fr + 1 ≤ n; omega
    obtain ⟨fn, tmps, assign, body, hy, hR⟩ := hY (num, fr) wr hJs hfr
    clear hY
    by_cases hz : cap = fr
    · have hnf : n = fr := by omega
      have h00 : lnLen T n fr = 0 := by have := lnLen_le T n fr; omega
      have ho : lnOff off cap fr = off := if_pos hz
      simp only [lnEnc, lineV, ho, h00] at hy
      have HL := hlast.out (by omega)
      have HLL : Hid _ := HL
      have hix : nlIx (sh T fr) 0 = -1 := by simp [nlIx]
      clear HL h00 ho
      subst hz
      subst hnf
      simp only [Nat.sub_self] at hy
      gi_wp2_with (refine ⟨trivial, ?_⟩; gi_at_call 16; refine (callsIn_wide.2 (indexByte_any b off 0 _ (sh T n) _ (fun i hi => by omega) (fun i => hb _))).mono ?_; rintro e w' ⟨rfl, rfl⟩; rw [hix])
      refine hR.mono ?_
      rintro e W3 (⟨rfl, hJ3, hk3⟩ | ⟨rfl, hJx3, hk3⟩)
      · gi_wp2
        refine bodyPost_ret (results_none rfl _ _ _) rfl ?_
        exact ⟨⟨_, rfl⟩, .inl ⟨_, HLL.out, hJ3⟩⟩
      · gi_wp2
        refine bodyPost_ret (results_none rfl _ _ _) rfl ?_
        exact ⟨⟨_, rfl⟩, .inr ⟨(num, n), Nat.le_refl _, hJx3⟩⟩
    · have ho : lnOff off cap fr = off + fr := if_neg hz
      have HE : Hid (nlIx (sh T fr) (n - fr) = if lnLen T n fr < n - fr then (lnLen T n fr : Int) else -1) := rfl
      have hle := lnLen_le T n fr
      by_cases he : lnLen T n fr < n - fr
      · have hix : nlIx (sh T fr) (n - fr) = (lnLen T n fr : Int) := by rw [HE.out, if_pos he]
        simp only [lnEnc, lineV, ho] at hy
        clear ho
        gi_wp2_with (refine ⟨trivial, ?_⟩; gi_at_call 16; refine (callsIn_wide.2 (indexByte_any b (off + fr) (n - fr) _ (sh T fr) _ (sh_tx hTr hfr) (fun i => hb _))).mono ?_; rintro e w' ⟨rfl, rfl⟩; rw [hix])
        refine hR.mono ?_
        rintro e W3 (⟨rfl, hJ3, hk3⟩ | ⟨rfl, hJx3, hk3⟩)
        · have hD3 := step.out W3 hk3
          have HD3 : Hid _ := hD3
          clear hD3
          gi_wp2
          go_roundw
          case rel => exact ⟨num + 1, fr + lnLen T n fr + 1, by go_num, by go_num, by omega, by omega, hJ3, Nat.le_trans hszr hk3.size, HD3.out⟩
          case measure => simp [intOf]; omega
        · gi_wp2
          refine bodyPost_ret (results_none rfl _ _ _) rfl ?_
          exact ⟨⟨_, rfl⟩, .inr ⟨(num, fr), hfr, hJx3⟩⟩
      · have hix : nlIx (sh T fr) (n - fr) = -1 := by rw [HE.out, if_neg he]
        have hln : lnLen T n fr = n - fr := by omega
        simp only [lnEnc, lineV, ho, hln] at hy
        have HLL : Hid _ := hlast.out hln
        clear ho hln
        gi_wp2_with (refine ⟨trivial, ?_⟩; gi_at_call 16; refine (callsIn_wide.2 (indexByte_any b (off + fr) (n - fr) _ (sh T fr) _ (sh_tx hTr hfr) (fun i => hb _))).mono ?_; rintro e w' ⟨rfl, rfl⟩; rw [hix])
        refine hR.mono ?_
        rintro e W3 (⟨rfl, hJ3, hk3⟩ | ⟨rfl, hJx3, hk3⟩)
        · gi_wp2
          refine bodyPost_ret (results_none rfl _ _ _) rfl ?_
          exact ⟨⟨_, rfl⟩, .inl ⟨_, HLL.out, hJ3⟩⟩
        · gi_wp2
          refine bodyPost_ret (results_none rfl _ _ _) rfl ?_
          exact ⟨⟨_, rfl⟩, .inr ⟨(num, fr), hfr, hJx3⟩⟩

set_option maxRecDepth 100000 in
set_option maxHeartbeats 1000000 in
/-- The nil text has one line. -/
theorem lines_gives_nil (bx : Nat) (T : Nat → Int) (w : World) (hbx : w.cell? ⟨bx, 0, none⟩ = some (.slice none 0 0)) :
    Gives Try.prog 15 #[.pointer (some ⟨bx, 0, none⟩)] ((1, 0) : Nat × Nat) (fun s => s.2 ≤ 0) (lnNext T 0) (lnEnc T 0 (fun _ => none) 0) (fun k => k = bx) w := by
  intro l C J Jx W hsz hD hDC hCW hJ hJx hY h0
  have hdep : Fence.wide.depth = none := rfl
  have hcx : W.cell? ⟨bx, 0, none⟩ = some (.slice none 0 0) := (World.cell?_of_block (a := ⟨bx, 0, none⟩) (hD bx rfl)).trans hbx
  obtain ⟨fn, tmps, assign, body, hy, hR⟩ := hY (1, 0) W h0 (Nat.le_refl _)
  have h00 : lnLen T 0 0 = 0 := by have := lnLen_le T 0 0; omega
  simp only [lnEnc, lineV, h00, Nat.sub_self] at hy
  have hy2 : (Instr.yield l #[Value.agg #[.int .i64 1, .int .i64 0, .slice none 0 0]]).run Try.prog W = .ok (.round l fn tmps assign body) W := hy
  clear hy
  have HLL : Hid (¬ (lnNext T 0 (1, 0)).2 ≤ 0) := by show ¬ 0 + lnLen T 0 0 + 1 ≤ 0; omega
  clear h00 hY
  refine callsIn_of_wp Try.func15 rfl trivial ?_ rfl
  simp only [Try.ntmps15, List.size_toArray, List.length_cons, List.length_nil, Nat.reduceAdd, Nat.reduceSub, Array.replicate_succ, Array.replicate_zero, List.push_toArray, List.append_toArray, List.nil_append, List.cons_append]
  gi_wp2
  gi_loopw [3, 4] (fun a f wr => a = .int .i64 1 ∧ f = .int .i64 0 ∧ wr = W) (fun _ f _ => 0)
  case atStart => exact ⟨rfl, rfl, rfl⟩
  case round =>
    obtain ⟨rfl, rfl, rfl⟩ := hrel
    gi_wp2_with (refine ⟨trivial, ?_⟩; gi_at_call 16; refine (callsIn_wide.2 (indexByte_nil _)).mono ?_; rintro e w' ⟨rfl, rfl⟩)
    refine hR.mono ?_
    rintro e W3 (⟨rfl, hJ3, hk3⟩ | ⟨rfl, hJx3, hk3⟩)
    · gi_wp2
      refine bodyPost_ret (results_none rfl _ _ _) rfl ?_
      exact ⟨⟨_, rfl⟩, .inl ⟨_, HLL.out, hJ3⟩⟩
    · gi_wp2
      refine bodyPost_ret (results_none rfl _ _ _) rfl ?_
      exact ⟨⟨_, rfl⟩, .inr ⟨(1, 0), Nat.le_refl _, hJx3⟩⟩

/-- The text's lines are given by its sequence, in whatever later world. -/
def LinesOf (w : World) (a : Option Addr) (n cap : Nat) (T : Nat → Int) (adr : Nat → Option Addr) : Prop :=
  ∀ (bx : Nat) (Wl : World), Below w.heap.size w Wl → Wl.cell? ⟨bx, 0, none⟩ = some (.slice a n cap) →
    ∃ D : Nat → Prop, (∀ k, D k → k = bx ∨ k < w.heap.size) ∧ Gives Try.prog 15 #[.pointer (some ⟨bx, 0, none⟩)] ((1, 0) : Nat × Nat) (fun s => s.2 ≤ n) (lnNext T n) (lnEnc T n adr cap) D Wl

/-- A text as a value: its bytes T, n of them; the line that begins at f lies at adr f. -/
structure TextV (w : World) (a : Option Addr) (n cap : Nat) (T : Nat → Int) (adr : Nat → Option Addr) : Prop where
  lines : LinesOf w a n cap T adr
  body : ∀ f, f ≤ n → ∃ b o, (0 < lnLen T n f → adr f = some ⟨b, o, none⟩) ∧ Tx w b o (lnLen T n f) (sh T f)
  cap : n ≤ cap
  small : n ≤ 1048576
  byte : ∀ i, 0 ≤ T i ∧ T i ≤ 255

theorem TextV.later {w w' : World} {a : Option Addr} {n cap : Nat} {T : Nat → Int} {adr : Nat → Option Addr} (h : TextV w a n cap T adr) (k : Below w.heap.size w w') : TextV w' a n cap T adr :=
  ⟨fun bx Wl hb hc => by
    obtain ⟨D, hD, hG⟩ := h.lines bx Wl (k.trans (hb.mono k.size)) hc
    exact ⟨D, fun i hi => (hD i hi).imp id (fun hl => Nat.lt_of_lt_of_le hl k.size), hG⟩,
   fun f hf => by
    obtain ⟨b, o, h1, h2⟩ := h.body f hf
    exact ⟨b, o, h1, h2.later k⟩, h.cap, h.small, h.byte⟩

theorem textV_some {w : World} {b off n cap : Nat} {T : Nat → Int} (hT : Tx w b off n T) (hb : ∀ i, 0 ≤ T i ∧ T i ≤ 255) (hn : n ≤ 1048576) (hcap : n ≤ cap) :
    TextV w (some ⟨b, off, none⟩) n cap T (fun f => some ⟨b, lnOff off cap f, none⟩) :=
  ⟨fun bx Wl hbe hc => ⟨_, fun k hk => by
      rcases hk with rfl | ⟨rfl, h0⟩
      · exact .inl rfl
      · exact .inr (lt_of_cell (hT 0 h0)), lines_gives bx b off n cap T Wl hc (hT.later hbe) hb hn hcap⟩,
   fun f hf => ⟨b, lnOff off cap f, fun _ => rfl, fun i hi => by
      have hl := lnLen_le T n f
      unfold lnOff
      rw [if_neg (by omega)]
      exact sh_tx hT hf i (by omega)⟩, hcap, hn, hb⟩

theorem textV_nil {w : World} {T : Nat → Int} (hb : ∀ i, 0 ≤ T i ∧ T i ≤ 255) : TextV w none 0 0 T (fun _ => none) :=
  ⟨fun bx Wl hbe hc => ⟨_, fun k hk => .inl hk, lines_gives_nil bx T Wl hc⟩,
   fun f hf => ⟨0, 0, fun h => by have := lnLen_le T 0 f; omega, fun i hi => by have := lnLen_le T 0 f; omega⟩, Nat.le_refl _, by omega, hb⟩

end Go.Proofs.Ytcllnadfbmkigaa
