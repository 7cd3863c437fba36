import Derived.Test.YteoddjobpmmgeaaGreatT21
import Derived.Deep.MidRow
set_option linter.unusedVariables false
set_option linter.unusedSimpArgs false
namespace Go.Proofs.YteoddjobpmmgeaaGreat
section
open Go.RowKit
def cl (M : Nat → Bool) : Nat → List Int
  | 0 => []
  | b + 1 => if M b = true then (if b ≠ 0 ∧ M (b - 1) = true then (cl M b).dropLast ++ [(b : Int)] else cl M b ++ [(b : Int), (b : Int)]) else cl M b
theorem cl_len (M : Nat → Bool) : ∀ b, (cl M b).length ≤ 2 * b
  | 0 => Nat.le_refl _
  | b + 1 => by
    have := cl_len M b
    rw [cl]
    split
    · split
      · rw [List.length_append, List.length_dropLast, List.length_singleton]; omega
      · rw [List.length_append]; simp; omega
    · omega
theorem cl_last (M : Nat → Bool) : ∀ b, (b ≠ 0 ∧ M (b - 1) = true → (cl M b).getLast? = some ((b : Int) - 1)) ∧ ∀ x, (cl M b).getLast? = some x → x ≤ (b : Int) - 1 ∧ (¬ (b ≠ 0 ∧ M (b - 1) = true) → x < (b : Int) - 1)
  | 0 => ⟨fun h => absurd rfl h.1, fun x h => by simp [cl] at h⟩
  | b + 1 => by
    obtain ⟨h1, h2⟩ := cl_last M b
    cases hM : M b with
    | false =>
      have e : cl M (b + 1) = cl M b := by rw [cl, hM]; simp
      rw [e]
      refine ⟨fun h => ?_, fun x hx => ?_⟩
      · have := h.2; rw [Nat.add_sub_cancel, hM] at this; cases this
      · have := (h2 x hx).1
        exact ⟨by omega, fun _ => by omega⟩
    | true =>
      have e : (cl M (b + 1)).getLast? = some ((b : Int)) := by
        rw [cl, hM]
        simp only [if_true]
        split
        · simp
        · simp
      rw [e]
      refine ⟨fun _ => by congr 1; omega, fun x hx => ?_⟩
      cases hx
      exact ⟨by omega, fun h => absurd ⟨by omega, by rw [Nat.add_sub_cancel]; exact hM⟩ h⟩
theorem rg_cl (M : Nat → Bool) : ∀ b, b ≤ 256 → rg M b = if b ≠ 0 ∧ M (b - 1) = true ∧ b ≠ 256 ∧ M b = true then (cl M b).dropLast else cl M b
  | 0, _ => by simp [rg, cl]
  | b + 1, hb => by
    have ih := rg_cl M b (by omega)
    have e : cl M (b + 1) = (if M b = true then (if b ≠ 0 ∧ M (b - 1) = true then (cl M b).dropLast ++ [(b : Int)] else cl M b ++ [(b : Int), (b : Int)]) else cl M b) := rfl
    rw [rg_succ M b, ih, e]
    generalize cl M b = L
    have h6 : b ≠ 256 := by omega
    cases hM : M b with
    | false => simp [hM]
    | true =>
      by_cases h0 : b = 0
      · subst h0
        cases hN : M 1 <;> simp [hM, hN]
      · cases hP : M (b - 1) with
        | false =>
          by_cases h5 : b = 255
          · subst h5; simp [hM, hP]
          · cases hN : M (b + 1) <;> simp [hM, hN, hP, h0, h5, h6]
        | true =>
          by_cases h5 : b = 255
          · subst h5; simp [hM, hP]
          · cases hN : M (b + 1) <;> simp [hM, hN, hP, h0, h5, h6]
theorem rg_cl_all (M : Nat → Bool) : rg M 256 = cl M 256 := by rw [rg_cl M 256 (Nat.le_refl _), if_neg (fun h => h.2.2.1 rfl)]
theorem list_run2 {w0 w1 : World} {v : Value} {l : List Int} (z y : Int) (ty : TypeId) (h : OwnL w0 w1 v l) (hso : Soft w0 w1) (hl : l.length ≤ 4194304) :
    ∃ v' w', (Builtin.append_ #[40, 40] ty #[v, .slice (some ⟨w1.heap.size, 0, none⟩) 2 2]).run Tryz.prog (w1.alloc (.cells #[.int .i64 z, .int .i64 y] 3)) = .ok v' w' ∧ OwnL w0 w' v' (l ++ [z, y]) ∧ Soft w0 w' := by
  obtain ⟨P, ho, hp, hb⟩ := h
  have b1 := bel1 w1 (.cells #[.int .i64 z, .int .i64 y] 3)
  have hs : Src Tryz.prog 1 40 (.slice (some ⟨w1.heap.size, 0, none⟩) 2 2) 2 [.int .i64 z, .int .i64 y] (w1.alloc (.cells #[.int .i64 z, .int .i64 y] 3)) := by
    refine Src.ofSlice (P := Tryz.prog) _ Tryz.underlying40 ⟨w1.heap.size, 0, none⟩ 2 2 [.int .i64 z, .int .i64 y] rfl (fun j u hu => ?_) (fun u hu => ?_)
    · match j, hu with
      | 0, hu => simpa [Addr.add] using (cN w1.heap.size rfl hu : (w1.alloc (.cells #[.int .i64 z, .int .i64 y] 3)).cell? ⟨w1.heap.size, 0, none⟩ = some u)
      | 1, hu => simpa [Addr.add] using (cN w1.heap.size rfl hu : (w1.alloc (.cells #[.int .i64 z, .int .i64 y] 3)).cell? ⟨w1.heap.size, 1, none⟩ = some u)
      | j + 2, hu => simp at hu
    · simp at hu
      rcases hu with rfl | rfl <;> rfl
  obtain ⟨v', w', hr, k1, k2, k3⟩ := appC_run' ty elem40 (ho.on (fun b hb => b1.block b (hp b hb).2)) hs (by omega) (fun _ => by omega)
  refine ⟨v', w', hr, ⟨fun b => (P b ∨ (w1.alloc (.cells #[.int .i64 z, .int .i64 y] 3)).heap.size ≤ b) ∧ b < w'.heap.size, ?_, ?_, ?_⟩, (hso.trans (soft1 w1 _ 3) b1).grew k2⟩
  · have e : intsV (l ++ [z, y]) = intsV l ++ [.int .i64 z, .int .i64 y] := by simp [intsV]
    rw [e, List.length_append]
    show OwnC _ _ _ _ (l.length + 2) _
    rcases k1 with q | ⟨g, cap, e, hq, h3, h4, h5, h6⟩
    · exact .inl q
    · refine .inr ⟨g, cap, e, ⟨hq, ?_⟩, h3, h4, h5, h6⟩
      obtain ⟨u, hu⟩ := Option.isSome_iff_exists.1 (h6 0 (by omega)).1
      exact lt_of_cell hu
  · rintro b ⟨q | q, hlt⟩
    · exact ⟨(hp b q).1, hlt⟩
    · have := hb.size
      have := b1.size
      exact ⟨by omega, hlt⟩
  · have hs0 := hb.size
    have hs1 := b1.size
    exact ⟨k2.os.trans (b1.os.trans hb.os), k2.tape.trans (b1.tape.trans hb.tape), k2.output.trans (b1.output.trans hb.output), by have := k2.size; omega, fun b hbb => (k2.block b (by omega) (fun q => by have := (hp b q).1; omega)).trans ((b1.block b (by omega)).trans (hb.block b hbb))⟩
theorem listA2 {ops : Array Oper} {rest : List Oper} {o : Oper} {a : Act} {P' : Exit → Act → World → Prop} (hgd : o.guard = none) (s x : Operand) (ho : o.op = .call { callee := .builtin .append, args := #[s, x], argTypes := #[40, 40] })
    {w0 w1 : World} {v : Value} {l : List Int} {z y : Int} (hs : a.eval s = v) (hx : a.eval x = .slice (some ⟨w1.heap.size, 0, none⟩) 2 2) (h : OwnL w0 w1 v l) (hso : Soft w0 w1) (hl : l.length ≤ 4194304)
    (k : ∀ w' l' n' a' c', Hid (l' = l ++ [z, y]) → Hid (n' = l'.length) → Hid (OwnL w0 w' (.slice a' n' c') l') → Hid (Soft w0 w') → wpList Tryz.prog ops P' rest (a.put o.dst (.slice a' n' c')) w') : wpList Tryz.prog ops P' (o :: rest) a (w1.alloc (.cells #[.int .i64 z, .int .i64 y] 3)) := by
  refine wpList_plain hgd fun K hK => ?_
  obtain ⟨v', w', hr, hR, hSo⟩ := list_run2 z y o.type h hso hl
  obtain ⟨a', c', rfl⟩ := hR.shape
  unfold Oper.wp execOp
  simp only [ho, resolve, invoke, builtin, Sem.run_bind, Sem.run_pure, Result.andThen_ok, List.map_toArray, List.map_cons, List.map_nil, hs, hx, hr]
  exact hK _ _ (k w' (l ++ [z, y]) _ a' c' rfl rfl hR hSo)
theorem ownL_last {w0 w : World} {a : Option Addr} {c j : Nat} {X : List Int} {x : Int} (h : OwnL w0 w (.slice a (j + 1) c) (X ++ [x])) (hj : X.length = j) :
    ∃ g, a = some ⟨g, 0, none⟩ ∧ w0.heap.size ≤ g ∧ g < w.heap.size ∧ w.cell? ⟨g, j, none⟩ = some (.int .i64 x) ∧ w.frozen? ⟨g, j, none⟩ = false ∧ ∀ y : Int, OwnL w0 (w.setCell ⟨g, j, none⟩ (.int .i64 y)) (.slice (some ⟨g, 0, none⟩) (j + 1) c) (X ++ [y]) := by
  subst hj
  obtain ⟨P, ho, hp, hb⟩ := h
  have hl : (X ++ [x]).length = X.length + 1 := by simp
  rcases ho with ⟨_, e, _⟩ | ⟨g, cap, e, hq, h3, h4, h5, h6⟩
  · omega
  · injection e with e1 e2 e3
    subst e3
    have hv : intsV (X ++ [x]) = intsV X ++ [.int .i64 x] := by simp [intsV]
    have hvl : (intsV X).length = X.length := by simp [intsV]
    have hc : w.cell? ⟨g, X.length, none⟩ = some (.int .i64 x) := by
      rw [h5 X.length (by rw [hv]; simp [hvl]), hv, List.getElem?_append_right (by omega), hvl]; simp
    refine ⟨g, e1, (hp g hq).1, (hp g hq).2, hc, (h6 X.length (by omega)).2, fun y => ⟨P, ?_, fun b q => by rw [size_set]; exact hp b q, ?_⟩⟩
    · have hvy : intsV (X ++ [y]) = intsV X ++ [.int .i64 y] := by simp [intsV]
      have hl2 : (X ++ [y]).length = X.length + 1 := by simp
      rw [hl2]
      refine .inr ⟨g, c, rfl, hq, by rw [hvy]; simp [hvl], by omega, fun i hi => ?_, fun i hi => ?_⟩
      · rw [hvy, List.length_append, hvl, List.length_singleton] at hi
        by_cases e : i = X.length
        · subst e
          rw [cell_set_same hc, hvy, List.getElem?_append_right (by omega), hvl]; simp
        · rw [cell_set_other (fun q => e q.symm), h5 i (by rw [hv]; simp [hvl]; omega), hv, hvy, List.getElem?_append_left (by omega), List.getElem?_append_left (by omega)]
      · obtain ⟨k1, k2⟩ := h6 i hi
        refine ⟨?_, (World.frozen?_setCell _ _ _ _).trans k2⟩
        by_cases e : i = X.length
        · subst e; rw [cell_set_same hc]; rfl
        · rw [cell_set_other (fun q => e q.symm)]; exact k1
    · have hg := (hp g hq).1
      exact hb.setCell (p := ⟨g, X.length, none⟩) hg _
def GivesS (l : List Int) (w : World) (e : Ending) (w' : World) : Prop := ∃ a c, e = .returned (.slice a l.length c) ∧ OwnL w w' (.slice a l.length c) l ∧ Soft w w'
def clI (w : World) (M : Nat → Bool) (ov iv : Value) (wr : World) : Prop := ∃ k : Nat, k ≤ 256 ∧ iv = .int .i64 (k : Int) ∧ OwnL w wr ov (cl M k) ∧ Soft w wr
theorem arrSize : (Tryz.prog.info? 140).map (·.size) = some 256 := by kernel_rfl
theorem boolSize : (Tryz.prog.info? 4).map (·.size) = some 1 := by kernel_rfl
theorem index_run (arr : Array Value) (k : Nat) (v : Value) (w : World) (hk : k < 256) (hv : arr[k]? = some v) : (Instr.index 140 (.agg arr) (.int .i64 (k : Int))).run Tryz.prog w = .ok v w := by
  obtain ⟨j, hj, hs⟩ := Option.map_eq_some_iff.1 boolSize
  have h1 : (k : Int) < 256 := by omega
  simp [Instr.index, asIntOf, run_underlying Tryz.underlying140, run_underlying Tryz.underlying4, part, isAgg, sizeOf, typeInfo, hj, hs, h1, hv]
  intro q; omega
set_option maxRecDepth 100000 in
set_option maxHeartbeats 4000000 in
theorem rangesOf_any (wb : Bool) (arr : Array Value) (M : Nat → Bool) (w : World) (hs : arr.size = 256) (hM : ∀ i, i < 256 → arr[i]? = some (.bool (M i == wb))) :
    Calls Tryz.prog 80 #[.agg arr, .bool wb] w (GivesS (rg M 256) w) := by
  have HM : Hid (∀ i, i < 256 → arr[i]? = some (.bool (M i == wb))) := hM
  have HG : Hid (∀ e w', GivesS (cl M 256) w e w' → GivesS (rg M 256) w e w') := fun e w' h => by rw [rg_cl_all]; exact h
  clear hM
  go_enter Tryz.func80, Tryz.ntmps80
  go_wp2
  refine wp_load_mid 140 (.tmp 2) rfl w.heap.size 0 rfl arr.toList (.array 256 4) (fun j v hv => ?_) Tryz.underlying140 rfl (by rw [Array.length_toList, hs]; exact arrSize) ?_
  · rw [Nat.zero_add]
    exact blk_cell (blk_new w _ _ rfl) (by simpa using hv)
  rw [Array.toArray_toList]
  go_wp2
  go_loopw [5, 9] (fun ov iv wr => clI w M ov iv wr) (fun ov iv _ => 256 - (intOf iv).toNat)
  case atStart => exact ⟨0, by omega, rfl, OwnL.nil (bel1 w _), soft1 w _ 140⟩
  case round =>
    obtain ⟨k, hk, rfl, hO, hSO⟩ := hrel
    have HSO : Hid (Soft w wr) := hSO
    clear hSO
    obtain ⟨oa, oc, rfl⟩ := hO.shape
    have hln := cl_len M k
    obtain ⟨on, hon⟩ : ∃ on, (cl M k).length = on := ⟨_, rfl⟩
    rw [hon] at hO hln ⊢
    have HO : Hid (OwnL w wr (.slice oa on oc) (cl M k)) := hO
    have HON : Hid ((cl M k).length = on) := hon
    clear hO hon
    by_cases hlt : k < 256
    · have hlt' : (k : Int) < 256 := by omega
      have hix := fun w => index_run arr k _ w hlt (HM.out k hlt)
      have hcl : cl M (k + 1) = (if M k = true then (if k ≠ 0 ∧ M (k - 1) = true then (cl M k).dropLast ++ [(k : Int)] else cl M k ++ [(k : Int), (k : Int)]) else cl M k) := rfl
      cases hMk : M k with
      | false =>
        rw [hMk] at hcl hix
        have hnw : (false == wb) = !wb := by cases wb <;> rfl
        have hnb : ((!wb) != wb) = true := by cases wb <;> rfl
        rw [hnw] at hix
        have HR : Hid (cl M (k + 1) = cl M k) := by show _ = _; rw [hcl]; simp
        clear hcl hMk
        go_wp2
        go_roundw
        case rel => exact ⟨k + 1, by omega, by go_num, by rw [HR.out]; exact HO.out, HSO.out⟩
        case measure => simp [intOf]; omega
      | true =>
        rw [hMk] at hcl hix
        have hnw : (true == wb) = wb := by cases wb <;> rfl
        have hnb : (wb != wb) = false := by cases wb <;> rfl
        rw [hnw] at hix
        obtain ⟨hl1, hl2⟩ := cl_last M k
        by_cases hp : k ≠ 0 ∧ M (k - 1) = true
        · have HR : Hid (cl M (k + 1) = (cl M k).dropLast ++ [(k : Int)]) := by show _ = _; rw [hcl, if_pos rfl, if_pos hp]
          obtain ⟨X, hX⟩ : ∃ X, (cl M k).dropLast = X := ⟨_, rfl⟩
          have hcons : cl M k = X ++ [(k : Int) - 1] := by
            rw [← hX]
            have := hl1 hp
            rw [List.getLast?_eq_some_iff] at this
            obtain ⟨ys, hy⟩ := this
            rw [hy]; simp
          obtain ⟨j, rfl⟩ : ∃ j, on = j + 1 := ⟨on - 1, by have := HON.out; rw [hcons, List.length_append, List.length_singleton] at this; omega⟩
          have hXl : X.length = j := by have := HON.out; rw [hcons, List.length_append, List.length_singleton] at this; omega
          have hO := HO.out
          rw [hcons] at hO
          obtain ⟨g, rfl, g1, g2, c1, f1, hst⟩ := ownL_last hO hXl
          have HST : Hid (∀ y : Int, OwnL w (wr.setCell ⟨g, j, none⟩ (.int .i64 y)) (.slice (some ⟨g, 0, none⟩) (j + 1) oc) (X ++ [y])) := hst
          have HX : Hid (cl M (k + 1) = X ++ [(k : Int)]) := by show _ = _; rw [HR.out, hX]
          have HXL : Hid (X.length = j) := hXl
          have hj0 : (0 : Int) < ((j + 1 : Nat) : Int) := by omega
          have e1 : ((j + 1 : Nat) : Int) - 1 = (j : Int) := by omega
          have hjl : (j : Int) < ((j + 1 : Nat) : Int) := by omega
          have hj5 : j ≤ 512 := by omega
          clear hcl hMk hl1 hl2 hp hcons hO hst hX hXl HO HON HR
          go_wp2
          go_roundw
          case rel => exact ⟨k + 1, by omega, by go_num, by rw [HX.out]; exact HST.out _, HSO.out.set _ _⟩
          case measure => simp [intOf]; omega
        · have HR : Hid (cl M (k + 1) = cl M k ++ [(k : Int), (k : Int)]) := by show _ = _; rw [hcl, if_pos rfl, if_neg hp]
          rcases Nat.eq_zero_or_pos on with h0 | h0
          · subst h0
            clear hcl hMk hl1 hl2 hp
            go_wp2_with (at_builtin; refine listA2 (l := cl M k) rfl _ _ rfl rfl rfl HO.out HSO.out (by rw [HON.out]; omega) ?_; intro W L n a1 c1 E1 E2 E3 E4)
            go_roundw
            case rel => exact ⟨k + 1, by omega, by go_num, by rw [HR.out]; exact E1.out ▸ E3.out, E4.out⟩
            case measure => simp [intOf]; omega
          · obtain ⟨j, rfl⟩ : ∃ j, on = j + 1 := ⟨on - 1, by omega⟩
            obtain ⟨x, hx⟩ : ∃ x, (cl M k).getLast? = some x := by
              cases q : (cl M k).getLast? with
              | none => rw [List.getLast?_eq_none_iff] at q; have := HON.out; rw [q] at this; simp at this
              | some x => exact ⟨x, rfl⟩
            have hxk := (hl2 x hx).2 hp
            obtain ⟨X, hcons⟩ := List.getLast?_eq_some_iff.1 hx
            have hXl : X.length = j := by have := HON.out; rw [hcons, List.length_append, List.length_singleton] at this; omega
            have hO := HO.out
            rw [hcons] at hO
            obtain ⟨g, rfl, g1, g2, c1, f1, hst⟩ := ownL_last hO hXl
            have hne : (x == (k : Int) - 1) = false := by simp; omega
            have hj0 : (0 : Int) < ((j + 1 : Nat) : Int) := by omega
            have e1 : ((j + 1 : Nat) : Int) - 1 = (j : Int) := by omega
            have hjl : (j : Int) < ((j + 1 : Nat) : Int) := by omega
            have hj5 : j ≤ 512 := by omega
            clear hcl hMk hl1 hl2 hp hO hst hXl hx hcons hxk
            go_wp2_with (at_builtin; refine listA2 (l := cl M k) rfl _ _ rfl rfl rfl HO.out HSO.out (by rw [HON.out]; omega) ?_; intro W L n a1 c1 E1 E2 E3 E4)
            go_roundw
            case rel => exact ⟨k + 1, by omega, by go_num, by rw [HR.out]; exact E1.out ▸ E3.out, E4.out⟩
            case measure => simp [intOf]; omega
    · obtain rfl : k = 256 := by omega
      go_wp2
      go_ret
      refine HG.out _ _ ⟨oa, oc, congrArg (fun n => Ending.returned (.slice oa n oc)) HON.out.symm, ?_, HSO.out⟩
      rw [HON.out]; exact HO.out
end
end Go.Proofs.YteoddjobpmmgeaaGreat
