/-
  Walks: the program's Render.
-/
import Derived.Test.YtkgopipejgcbiaaDoorSpecRender
import Derived.Test.YtkgopipejgcbiaaDoorRepeat
import Derived.Laws.AppendOwn
import Derived.Maps.AppendAt
namespace Go.Proofs.YtkgopipejgcbiaaDoor
open Go.RowKit
set_option linter.unusedVariables false

/-- The table of powers lies below. -/
def Tab (w : World) : Prop := Lib.TabBelow Tryd.prog w.heap.size w "internal/strconv.uint64pow10" .u64 Lib.pow10Tab
theorem Tab.on {w w' : World} (h : Tab w) (k : Below w.heap.size w w') : Tab w' := fun x hx => h x (k.trans (hx.mono k.size))

theorem cells_decI (u : Nat) : Lib.byteCells (Lib.itoa (u : Int)) = (decI u).map (Value.int .u8) := by
  rw [Lib.itoa_nonneg]
  simp [Lib.byteCells, decI]

theorem appendInt_more (B num : Nat) (hnum : num ≤ 1048577) (v : Value) (xs : List Value) (w : World) (hx : xs.length ≤ 4194304) (hown : w.ownsRow B 5 1 v xs.length xs) (hB : B ≤ w.heap.size) (htab : Lib.TabBelow Tryd.prog B w "internal/strconv.uint64pow10" .u64 Lib.pow10Tab) :
    Calls Tryd.prog 15 #[v, .int .i64 num, .int .i64 10] w fun e w' => ∃ v' xs', e = .returned v' ∧ Hid (xs' = xs ++ (decI num).map (Value.int .u8)) ∧ w'.ownsRow B 5 1 v' xs'.length xs' ∧ Below B w w' := by
  refine (Tryd.strconv_AppendInt_10 B xs.length num (by omega) (by omega) v xs w hown hB (by omega) htab).mono ?_
  rintro e w' ⟨v', rfl, h1, h2, _⟩
  rw [cells_decI] at h1
  refine ⟨v', _, rfl, rfl, ?_, h2⟩
  have hl : (xs ++ (decI num).map (Value.int .u8)).length = xs.length + (Lib.itoa (num : Int)).length := by
    rw [← cells_decI]; simp [Lib.byteCells]
  rw [hl]
  exact h1

theorem ownM_of_row {B : Nat} {w0 w : World} {v : Value} {xs : List Value} {zs : List Int} (h : w.ownsRow B 5 1 v xs.length xs) (hx : xs = zs.map (Value.int .u8)) (h0 : 0 < zs.length) (hb : Below B w0 w) (hB : B ≤ w.heap.size) : OwnM B w0 w v zs := by
  have hl : xs.length = zs.length := by rw [hx]; simp
  rcases h.2 with ⟨_, h'⟩ | ⟨g, cap, cur, rfl, hg, hc, h3, h4, h5, h6⟩
  · omega
  · rw [hl]
    refine ownM_of_block hc (.inl rfl) hg hb hB (by omega) (by omega) fun j hj => ?_
    have e : xs[j]? = some (.int .u8 (zf zs j)) := by rw [hx]; exact map_get hj
    rw [← h6, List.getElem?_take] at e
    split at e
    · simpa using e
    · cases e

theorem OwnM.base {A B : Nat} {a w0 w : World} {v : Value} {zs : List Int} (h : OwnM B w0 w v zs) (hb : Below A a w0) (hA : A ≤ B) : OwnM A a w v zs := by
  obtain ⟨g, cap, h1, h2, h3, h4, h5, h6, h7⟩ := h
  exact ⟨g, cap, h1, Nat.le_trans hA h2, h3, h4, h5, hb.trans (h6.mono hA), Nat.le_trans hA h7⟩

/-- One byte onto a row. -/
theorem appR {ops : Array Oper} {rest : List Oper} {o : Oper} {a : Act} {Q : Exit → Act → World → Prop} {w : World} (hgd : o.guard = none) (s x : Operand) (ho : o.op = .call { callee := .builtin .append, args := #[s, x], argTypes := #[22, 22] })
    {B : Nat} {w0 : World} {v : Value} {xs : List Value} {z : Int} (hs : a.eval s = v) (hx : a.eval x = .slice (some ⟨w.heap.size, 0, none⟩) 1 1) (hown : w.ownsRow B 5 1 v xs.length xs) (hlen : xs.length ≤ 4194303) (hb : Below B w0 w) (hB : B ≤ w.heap.size)
    (h : ∀ v' w' xs', Hid (xs' = xs ++ [.int .u8 z]) → w'.ownsRow B 5 1 v' xs'.length xs' → Below B w0 w' → wpList Tryd.prog ops Q rest (a.put o.dst v') w') : wpList Tryd.prog ops Q (o :: rest) a (w.alloc (.cells #[.int .u8 z] 5)) := by
  obtain ⟨i, hi, hz0, hz1, hz2⟩ := info_parts Tryd.info5
  refine wpList_append_own _ hgd s x 22 ho B 5 i (.int .u8 0) 1 1 Tryd.underlying22 hi hz0 hz1 hz2 rfl (by decide) v xs.length xs hs (hown.alloc _) ⟨w.heap.size, 0, none⟩ 1 1 [.int .u8 z] hx rfl (cell_one_new _ _ _) (by intro u hu; simp at hu; subst hu; rfl) (by unfold maxLen; omega) (by omega) (by simp; omega) ?_
  intro v' w' h1 h2 _
  refine h v' w' _ rfl ?_ ((hb.alloc hB _).grown h2 (by simp; omega) (fun k hk => (hown.lt k hk).1))
  rw [List.length_append]
  exact h1

set_option maxRecDepth 100000 in
set_option maxHeartbeats 1000000 in
/-- The program's Render at an offset of the text. -/
theorem render_in (a : Option Addr) (n cap q : Nat) (T : Nat → Int) (adr : Nat → Option Addr) (ma : Option Addr) (mb mo m mc : Nat) (M' : Nat → Int) (w : World) (hV : TextV w a n cap T adr) (hq : q ≤ n)
    (hA : 0 < m → ma = some ⟨mb, mo, none⟩) (hM : Tx w mb mo m M') (hm : m ≤ 1048576) (htab : Tab w) :
    Calls Tryd.prog 6 #[.slice a n cap, .int .i64 q, .slice ma m mc] w fun e w' => Rendered T M' n m q w e w' := by
  go_enter Tryd.func6, Tryd.ntmps6
  go_wp2_with fail
  refine (callsIn_wide.1 (holding_in a n cap q T adr _ hV)).mono ?_
  rintro e w1 ⟨(⟨num, fr, rfl, hfr, hnum, hst, hle, hqe⟩ | ⟨rfl, hq'⟩), hb1⟩
  · have hle' : fr ≤ q := by omega
    have hqe' : q ≤ fr + lnLen T n fr := by omega
    have hll := lnLen_le T n fr
    have FIN : Hid (∀ c : Nat, (∀ j, j < c → fr + M.pos (sh T fr) (lnLen T n fr) 0 j < q) → q ≤ fr + M.pos (sh T fr) (lnLen T n fr) 0 c → LC T n q num (c + 1)) := fun c h1 h2 => lc_of hfr hnum hst hle' hqe' h1 h2
    have FST : Hid (M.Start T q fr) := ⟨hle', hst, fun j x1 x2 => lnLen_not (n := n) x1 (by omega)⟩
    have hn := hV.small
    have hcap := hV.cap
    have hnum' : num ≤ 1048577 := by
      have := M.cnt_le T fr
      omega
    clear hnum hst hle hqe
    have hV1 := hV.later hb1
    have hM1 := hM.later hb1
    have ht1 := htab.on hb1
    obtain ⟨b, o, hAb, hTb⟩ := hV1.body fr hfr
    go_wp2_with fail
    obtain ⟨X, hX⟩ : ∃ X, w1.alloc (Obj.cells #[Value.int IntKind.i64 num, Value.int IntKind.i64 fr, Value.slice (adr fr) (lnLen T n fr) (cap - fr)] 32) = X := ⟨_, rfl⟩
    have hx := cells3New w1 (.int .i64 num) (.int .i64 fr) (.slice (adr fr) (lnLen T n fr) (cap - fr)) 32
    rw [hX] at hx
    obtain ⟨x0, x1, x2⟩ := hx
    have bX : Below w1.heap.size w1 X := by rw [← hX]; exact (Below.refl _ w1).alloc (Nat.le_refl _) _
    have sX : w1.heap.size < X.heap.size := by rw [← hX]; simp
    rw [hX]
    clear hX
    refine (callsIn_wide.1 (column_in num fr b o (lnLen T n fr) (cap - fr) (adr fr) q (sh T fr) X (hTb.later bX) (fun i => hV.byte _) (by omega) (by omega) (by omega) hAb hqe')).mono ?_
    rintro e w2 ⟨⟨c, rfl, hc1, hc2, hc3⟩, hbc⟩
    obtain ⟨C, hC⟩ : ∃ C, C = c + 1 := ⟨_, rfl⟩
    have hlc := FIN.out c hc1 hc2
    rw [← hC] at hlc ⊢
    obtain ⟨_, hCq⟩ := hlc.le
    have HLC : Hid (LC T n q num C) := hlc
    have y0 := (hbc.cell (p := ⟨w1.heap.size, 0, none⟩) sX).trans x0
    have y2 := (hbc.cell (p := ⟨w1.heap.size, 2, none⟩) sX).trans x2
    have sX2 : w1.heap.size < w2.heap.size := Nat.lt_of_lt_of_le sX hbc.size
    have b12 : Below w1.heap.size w1 w2 := bX.trans (hbc.mono (Nat.le_of_lt sX))
    have hM2 := hM1.later b12
    have hT2 := hTb.later b12
    have ht2 : Lib.TabBelow Tryd.prog w2.heap.size w2 "internal/strconv.uint64pow10" .u64 Lib.pow10Tab := ht1.on b12
    have b02 : Below w.heap.size w w2 := hb1.trans (b12.mono hb1.size)
    have hsub : (C : Int) - 1 = (c : Int) := by omega
    have hcn : c ≤ 1048576 := by omega
    have hCn : C ≤ 1048577 := by omega
    have dl1 := decI_len num
    have dl2 := decI_len C
    obtain ⟨z5, hz5⟩ : ∃ z5, z5 = (decI num ++ [58]) ++ decI C := ⟨_, rfl⟩
    have k5 : z5.length ≤ 3000000 := by rw [hz5]; simp; omega
    have p5 : 0 < z5.length := by rw [hz5]; simp; omega
    have Z5 : Hid (z5 = (decI num ++ [58]) ++ decI C) := hz5
    have D1 : Hid ((decI num).length ≤ 1048579) := (show _ ≤ _ by omega)
    have HC : Hid (C = c + 1) := hC
    clear hz5 hlc hc1 hc2 hc3 x0 x1 x2 FIN dl1 dl2 hC
    go_wp2_with (first
      | (go_at_call 15; refine (appendInt_more w2.heap.size num hnum' (.slice none 0 0) [] _ (by simp) (World.ownsRow_nil _ _ _ _) (Nat.le_refl _) ht2).mono ?_; rintro e w3 ⟨v3, xs3, rfl, E3, R3, B3⟩)
      | (at_builtin; refine appR rfl (.tmp 25) (.tmp 26) rfl (z := 58) rfl rfl R3 (by have := D1.out; rw [E3.out]; simp; omega) B3 B3.size ?_; intro v4 w4 xs4 E4 R4 B4)
      | (go_at_call 15; refine (appendInt_more w2.heap.size C hCn v4 xs4 _ (by have := D1.out; rw [E4.out, E3.out]; simp; omega) R4 B4.size (fun x hx => ht2 x (B4.trans hx))).mono ?_; rintro e w5 ⟨v5, xs5, rfl, E5, R5, B5⟩; have O5 : OwnM w2.heap.size w2 w5 v5 z5 := ownM_of_row R5 (by rw [E5.out, E4.out, E3.out, Z5.out]; simp) p5 (B4.trans B5) (B4.trans B5).size)
      | (at_builtin; refine app rfl (.tmp 31) (.const (.string ⟨#[58, 32]⟩)) 9 rfl rfl rfl O5 (src_str _ _ [58, 32] rfl) 3000000 2 k5 (by simp) (by omega) ?_; intro v6 w6 z6 E6 k6 O6)
      | (at_builtin; refine app rfl (.tmp 33) (.tmp 34) 22 rfl rfl rfl O6 (src_text hA (hM2.later O6.below)) 3000002 1048576 k6.out (by rw [lst_len]; exact hm) (by omega) ?_; intro v7 w7 z7 E7 k7 O7)
      | (at_builtin; refine app rfl (.tmp 36) (.tmp 37) 22 rfl rfl rfl (O7.alloc _) (src_one _ 10 _) 4048578 1 k7.out (by simp) (by omega) ?_; intro v8 w8 z8 E8 k8 O8; have y8 := (O8.below.cell (p := ⟨w1.heap.size, 2, none⟩) sX2).trans y2)
      | (at_builtin; refine app rfl (.tmp 39) (.tmp 41) 22 rfl rfl rfl O8 (src_text hAb (hT2.later O8.below)) 4048579 1048576 k8.out (by rw [lst_len]; omega) (by omega) ?_; intro v9 w9 z9 E9 k9 O9)
      | (at_builtin; refine app rfl (.tmp 43) (.tmp 44) 22 rfl rfl rfl (O9.alloc _) (src_one _ 10 _) 5097155 1 k9.out (by simp) (by omega) ?_; intro v10 w10 z10 E10 k10 O10)
      | (go_at_call 16; refine (repeat_any _ c _ (cellNew _ _ _) hcn).mono ?_; rintro e w11 ⟨⟨g, rc, rfl, hrep⟩, hb11⟩; have O11 := (O10.alloc _).on hb11)
      | (at_builtin; refine app rfl (.tmp 46) (.tmp 50) 22 rfl rfl rfl O11 (src_text (fun _ => rfl) hrep) 5097156 1048576 k10.out (by rw [lst_len]; exact hcn) (by omega) ?_; intro v12 w12 z12 E12 k12 O12)
      | (at_builtin; refine app rfl (.tmp 52) (.const (.string ⟨#[94, 10]⟩)) 9 rfl rfl rfl O12 (src_str _ _ [94, 10] rfl) 6145732 2 k12.out (by simp) (by omega) ?_; intro v13 w13 z13 E13 k13 O13))
    go_ret
    refine ⟨_, num, C, fr, rfl, HLC.out, FST.out, ?_⟩
    have hz : z13 = Rz T M' m fr (lnLen T n fr) num C := by
      rw [E13.out, E12.out, E10.out, E9.out, E8.out, E7.out, E6.out, Z5.out, HC.out]
      rfl
    rw [← hz]
    exact O13.base b02 b02.size
  · omega

set_option maxRecDepth 100000 in
set_option maxHeartbeats 1000000 in
/-- The program's Render at an offset outside the text. -/
theorem render_out (a : Option Addr) (n cap : Nat) (q : Int) (T : Nat → Int) (adr : Nat → Option Addr) (ma : Option Addr) (m mc : Nat) (w : World) (hV : TextV w a n cap T adr) (hq : q < 0 ∨ (n : Int) < q) :
    Calls Tryd.prog 6 #[.slice a n cap, .int .i64 q, .slice ma m mc] w fun e w' => e = .returned (.slice none 0 0) ∧ Below w.heap.size w w' := by
  have HQ : Hid _ := hq
  clear hq
  go_enter Tryd.func6, Tryd.ntmps6
  go_wp2_with fail
  refine (callsIn_wide.1 (holding_in a n cap q T adr _ hV)).mono ?_
  rintro e w1 ⟨(⟨num, fr, rfl, hfr, hnum, hst, hle, hqe⟩ | ⟨rfl, hq'⟩), hb1⟩
  · have := HQ.out
    have hll := lnLen_le T n fr
    omega
  · have hs1 := hb1.size
    clear hq'
    go_wp2
    go_ret
    exact ⟨rfl, hb1.alloc hs1 _⟩

end Go.Proofs.YtkgopipejgcbiaaDoor
