/-
  append onto a slice that the call owns, cell by cell: elements of whatever size.
-/
import Derived.Test.YtjndcajblpgjmaaCopyG
import Derived.Deep.AppendSrc
import Derived.OwnWalk
namespace Go.Proofs.Ytjndcajblpgjmaa
open Go.RowKit
set_option linter.unusedVariables false

/-- The cells of a row are there and may be written. -/
def Wr (w : World) (g n : Nat) : Prop := ∀ j, j < n → (w.cell? ⟨g, j, none⟩).isSome = true ∧ w.frozen? ⟨g, j, none⟩ = false

/-- The value v is a slice that owns the cells cs, 'sz' an element, in a block of Q; or it is nil. -/
def OwnC (Q : Nat → Prop) (w : World) (v : Value) (sz n : Nat) (cs : List Value) : Prop :=
  (v = .slice none 0 0 ∧ n = 0 ∧ cs = []) ∨ ∃ g cap, v = .slice (some ⟨g, 0, none⟩) n cap ∧ Q g ∧ cs.length = n * sz ∧ n ≤ cap ∧ (∀ j, j < cs.length → w.cell? ⟨g, j, none⟩ = cs[j]?) ∧ Wr w g (cap * sz)

/-- Nothing but the block of v, which is one of Q, has turned; new blocks may have come. -/
structure Grew (Q : Nat → Prop) (w w' : World) : Prop where
  os : w'.os = w.os
  tape : w'.tape = w.tape
  output : w'.output = w.output
  size : w.heap.size ≤ w'.heap.size
  block : ∀ b, b < w.heap.size → ¬ Q b → w'.heap[b]? = w.heap[b]?
  frozen : ∀ b o, b < w.heap.size → w'.frozen? ⟨b, o, none⟩ = w.frozen? ⟨b, o, none⟩
  fresh : ∀ b o, w.heap.size ≤ b → b < w'.heap.size → w'.frozen? ⟨b, o, none⟩ = false

theorem Soft.grew {Q : Nat → Prop} {w0 w w' : World} (h : Soft w0 w) (g : Grew Q w w') : Soft w0 w' := fun b o h1 h2 => by
  by_cases e : b < w.heap.size
  · rw [g.frozen b o e]; exact h b o h1 e
  · exact g.fresh b o (by omega) h2

theorem Wr.later {w w' : World} {g n : Nat} (h : Wr w g n) (k : w'.heap[g]? = w.heap[g]?) : Wr w' g n := fun j hj => by
  rw [World.cell?_of_block (a := ⟨g, j, none⟩) k, World.frozen?_of_block (a := ⟨g, j, none⟩) k]; exact h j hj
theorem OwnC.on {Q : Nat → Prop} {w w' : World} {v : Value} {sz n : Nat} {cs : List Value} (h : OwnC Q w v sz n cs) (k : Stay Q w w') : OwnC Q w' v sz n cs := by
  rcases h with h | ⟨g, cap, h1, h2, h3, h4, h5, h6⟩
  · exact .inl h
  · exact .inr ⟨g, cap, h1, h2, h3, h4, fun j hj => by rw [World.cell?_of_block (a := ⟨g, j, none⟩) (k g h2)]; exact h5 j hj, h6.later (k g h2)⟩

theorem setCells_block (g : Nat) : ∀ (vs : List Value) (o : Nat) (w : World) (b : Nat), b ≠ g → (w.setCells g o vs).heap[b]? = w.heap[b]?
  | [], _, _, _, _ => rfl
  | v :: r, o, w, b, h => by
    show ((w.setCell ⟨g, o, none⟩ v).setCells g (o + 1) r).heap[b]? = _
    rw [setCells_block g r (o + 1) _ b h, Below.heap_setCell _ _ _ _ h]
theorem setCells_size (g : Nat) : ∀ (vs : List Value) (o : Nat) (w : World), (w.setCells g o vs).heap.size = w.heap.size
  | [], _, _ => rfl
  | v :: r, o, w => by
    show ((w.setCell ⟨g, o, none⟩ v).setCells g (o + 1) r).heap.size = _
    rw [setCells_size g r (o + 1) _, size_set]
theorem setCells_os (g : Nat) : ∀ (vs : List Value) (o : Nat) (w : World), (w.setCells g o vs).os = w.os ∧ (w.setCells g o vs).tape = w.tape ∧ (w.setCells g o vs).output = w.output
  | [], _, _ => ⟨rfl, rfl, rfl⟩
  | v :: r, o, w => setCells_os g r (o + 1) (w.setCell ⟨g, o, none⟩ v)

theorem appC_run {Q : Nat → Prop} {w : World} {v x : Value} {sz n m : Nat} {cs news : List Value} {t tx e : TypeId} (ty : TypeId) {i : TypeInfo} {z : Value} {bytes : Nat} (ht : Try.prog.underlying t = some (.slice e)) (hi : Try.prog.info? e = some i) (hz0 : i.zero = some z) (hz1 : i.size = sz) (hz2 : i.bytes = bytes)
    (hzc : z.cells.size = sz) (hown : OwnC Q w v sz n cs) (hs : Src Try.prog sz tx x m news w) (hlen : n + m ≤ 16777216) (hb : bytes ≤ 64) (hm : v = .slice none 0 0 → 0 < m) :
    ∃ v' w', (Builtin.append_ #[t, tx] ty #[v, x]).run Try.prog w = .ok v' w' ∧ OwnC (fun b => Q b ∨ w.heap.size ≤ b) w' v' sz (n + m) (cs ++ news) ∧ Grew (fun b => Q b) w w' ∧ w'.heap.size ≤ w.heap.size + 1 := by
  subst hz1
  have grow : ∀ (base : Option Addr) (cap : Nat) (hf : (Builtin.firstCells i.size n (.slice base n cap)).run Try.prog w.drew = .ok cs.toArray w.drew), cs.length = n * i.size → cap < n + m → v = .slice base n cap →
      ∃ v' w', (Builtin.append_ #[t, tx] ty #[v, x]).run Try.prog w = .ok v' w' ∧ OwnC (fun b => Q b ∨ w.heap.size ≤ b) w' v' i.size (n + m) (cs ++ news) ∧ Grew (fun b => Q b) w w' ∧ w'.heap.size ≤ w.heap.size + 1 := by
    rintro base cap hf hcl hfull rfl
    have hr := run_append_grow_src (P := Try.prog) w t tx ty e i z ht hi hz0 base n cap cs hf x m news hs hfull (by omega) (by rw [hz2]; exact growslice_fits hfull (by have : (n + m) * bytes ≤ 16777216 * 64 := Nat.mul_le_mul hlen hb; omega))
    have hge := grownCap_ge w (n + m) cap e
    refine ⟨_, _, hr, .inr ⟨w.heap.size, _, rfl, .inr (Nat.le_refl _), by rw [List.length_append, hcl, hs.newsLen, Nat.add_mul], hge, fun j hj => ?_, fun j hj => ⟨?_, ?_⟩⟩, ⟨rfl, rfl, rfl, by simp, fun b hb _ => Below.heap_alloc w.drew _ _ hb, fun b o hb => World.frozen?_of_block (a := ⟨b, o, none⟩) (Below.heap_alloc w.drew _ _ hb), fun b o h1 h2 => soft1 w.drew _ e b o h1 h2⟩, by simp⟩
    · have h := World.alloc_heap_new w.drew (Obj.cells ((cs ++ news).toArray ++ Builtin.zeroCells z.cells (grownCap w (n + m) cap e - (n + m))) e)
      have h' : (w.drew.alloc (Obj.cells ((cs ++ news).toArray ++ Builtin.zeroCells z.cells (grownCap w (n + m) cap e - (n + m))) e)).heap[w.heap.size]? = some (Obj.cells ((cs ++ news).toArray ++ Builtin.zeroCells z.cells (grownCap w (n + m) cap e - (n + m))) e) := h
      simp only [World.cell?, h']
      rw [Array.getElem?_append_left (by simpa using hj)]
      simp
    · have h := World.alloc_heap_new w.drew (Obj.cells ((cs ++ news).toArray ++ Builtin.zeroCells z.cells (grownCap w (n + m) cap e - (n + m))) e)
      have h' : (w.drew.alloc (Obj.cells ((cs ++ news).toArray ++ Builtin.zeroCells z.cells (grownCap w (n + m) cap e - (n + m))) e)).heap[w.heap.size]? = some (Obj.cells ((cs ++ news).toArray ++ Builtin.zeroCells z.cells (grownCap w (n + m) cap e - (n + m))) e) := h
      simp only [World.cell?, h']
      have hsz : ((cs ++ news).toArray ++ Builtin.zeroCells z.cells (grownCap w (n + m) cap e - (n + m))).size = grownCap w (n + m) cap e * i.size := by
        simp only [Array.size_append, List.size_toArray, List.length_append, hcl, hs.newsLen, size_zeroCells, hzc]
        generalize grownCap w (n + m) cap e = G at hge ⊢
        obtain ⟨k, rfl⟩ : ∃ k, G = n + m + k := ⟨G - (n + m), by omega⟩
        rw [show n + m + k - (n + m) = k by omega, Nat.add_mul, Nat.add_mul]
      rw [Array.getElem?_eq_getElem (by rw [hsz]; exact hj)]
      rfl
    · have h := World.alloc_heap_new w.drew (Obj.cells ((cs ++ news).toArray ++ Builtin.zeroCells z.cells (grownCap w (n + m) cap e - (n + m))) e)
      have h' : (w.drew.alloc (Obj.cells ((cs ++ news).toArray ++ Builtin.zeroCells z.cells (grownCap w (n + m) cap e - (n + m))) e)).heap[w.heap.size]? = some (Obj.cells ((cs ++ news).toArray ++ Builtin.zeroCells z.cells (grownCap w (n + m) cap e - (n + m))) e) := h
      simp only [World.frozen?, h']
      simp
  rcases hown with ⟨rfl, rfl, rfl⟩ | ⟨g, cap, rfl, hQ, hcl, hnc, hc, hw⟩
  · exact grow none 0 (by rw [run_firstCells_none]) (by simp) (by have := hm rfl; omega) rfl
  · by_cases hroom : n + m ≤ cap
    · have hr := run_append_room_src (P := Try.prog) w t tx ty e i ht hi g 0 n cap x m news hs hroom
        (fun j hj => by rw [Nat.zero_add]; rw [hs.newsLen] at hj; exact (hw _ (by have : (n + m) * i.size ≤ cap * i.size := Nat.mul_le_mul_right _ hroom; rw [Nat.add_mul] at this; omega)).1)
        (fun j hj => by rw [Nat.zero_add]; rw [hs.newsLen] at hj; exact (hw _ (by have : (n + m) * i.size ≤ cap * i.size := Nat.mul_le_mul_right _ hroom; rw [Nat.add_mul] at this; omega)).2)
      rw [Nat.zero_add] at hr
      have hcap : (n + m) * i.size ≤ cap * i.size := Nat.mul_le_mul_right _ hroom
      rw [Nat.add_mul] at hcap
      have hnl := hs.newsLen
      obtain ⟨o1, o2, o3⟩ := setCells_os g news (n * i.size) w
      refine ⟨_, _, hr, .inr ⟨g, cap, rfl, .inl hQ, by rw [List.length_append, hcl, hs.newsLen, Nat.add_mul], by omega, fun j hj => ?_, fun j hj => ⟨?_, ?_⟩⟩, ⟨o1, o2, o3, by rw [setCells_size]; exact Nat.le_refl _, fun b _ hb => setCells_block g _ _ _ _ (fun e => hb (e ▸ hQ)), fun b o _ => World.frozen?_setCells _ _ _ _ _, fun b o h1 h2 => by rw [setCells_size] at h2; omega⟩, by rw [setCells_size]; omega⟩
      · rw [List.length_append, hnl] at hj
        by_cases hlt : j < n * i.size
        · rw [World.cell?_setCells_out g _ _ w _ (fun _ _ => Or.inl hlt), List.getElem?_append_left (by omega)]
          exact hc j (by omega)
        · have h2 := World.cell?_setCells_in g news (n * i.size) w (fun k hk => (hw _ (by omega)).1) (j - n * i.size) (by omega)
          rw [show n * i.size + (j - n * i.size) = j by omega] at h2
          rw [h2, List.getElem?_append_right (by omega), hcl, List.getElem?_eq_getElem (by omega)]
      · by_cases hin : n * i.size ≤ j ∧ j < n * i.size + news.length
        · have h2 := World.cell?_setCells_in g news (n * i.size) w (fun k hk => (hw _ (by omega)).1) (j - n * i.size) (by omega)
          rw [show n * i.size + (j - n * i.size) = j by omega] at h2
          rw [h2]; rfl
        · rw [World.cell?_setCells_out g _ _ w _ (fun _ _ => by simp; omega)]
          exact (hw j hj).1
      · rw [World.frozen?_setCells]
        exact (hw j hj).2
    · exact grow (some ⟨g, 0, none⟩) cap (run_firstCells_some (P := Try.prog) w.drew i.size n ⟨g, 0, none⟩ n cap cs hcl (fun j u hu => by
        have hj : j < cs.length := (List.getElem?_eq_some_iff.1 hu).1
        have e' : (⟨g, 0, none⟩ : Addr).add j = ⟨g, j, none⟩ := by
          by_cases h0 : j = 0
          · subst h0; simp [Addr.add]
          · simp [Addr.add, h0]
        rw [e', ← hu]
        exact hc j hj)) hcl (by omega) rfl

/-- What an append asks, in one bundle: the slice's type t, its element e of sz cells and so many bytes. -/
structure ElemT (t e : TypeId) (sz bytes : Nat) : Prop where
  und : Try.prog.underlying t = some (.slice e)
  info : ∃ z, (Try.prog.info? e).map (fun i => (i.zero, i.size, i.bytes)) = some (some z, sz, bytes) ∧ z.cells.size = sz
  bytes : bytes ≤ 64

theorem appC_run' {Q : Nat → Prop} {w : World} {v x : Value} {sz bytes n m : Nat} {cs news : List Value} {t tx e : TypeId} (ty : TypeId) (hE : ElemT t e sz bytes) (hown : OwnC Q w v sz n cs) (hs : Src Try.prog sz tx x m news w) (hlen : n + m ≤ 16777216) (hm : v = .slice none 0 0 → 0 < m) :
    ∃ v' w', (Builtin.append_ #[t, tx] ty #[v, x]).run Try.prog w = .ok v' w' ∧ OwnC (fun b => Q b ∨ w.heap.size ≤ b) w' v' sz (n + m) (cs ++ news) ∧ Grew (fun b => Q b) w w' ∧ w'.heap.size ≤ w.heap.size + 1 := by
  obtain ⟨z, hi, hzc⟩ := hE.info
  obtain ⟨i, hi', hzz⟩ := Option.map_eq_some_iff.1 hi
  simp only [Prod.mk.injEq] at hzz
  obtain ⟨hz0, hz1, hz2⟩ := hzz
  exact appC_run ty hE.und hi' hz0 hz1 hz2 hzc hown hs hlen hE.bytes hm

/-- At the operation. -/
theorem appC {ops : Array Oper} {rest : List Oper} {o : Oper} {a : Act} {P' : Exit → Act → World → Prop} {w : World} (hgd : o.guard = none) (s x : Operand) (t tx : TypeId) (ho : o.op = .call { callee := .builtin .append, args := #[s, x], argTypes := #[t, tx] })
    {Q : Nat → Prop} {v y : Value} {e : TypeId} {sz bytes n m : Nat} {cs news : List Value} (hs : a.eval s = v) (hx : a.eval x = y) (hE : ElemT t e sz bytes) (hown : OwnC Q w v sz n cs) (hsrc : Src Try.prog sz tx y m news w) (hlen : n + m ≤ 16777216) (hm : v = .slice none 0 0 → 0 < m)
    (h : ∀ v' w', OwnC (fun b => Q b ∨ w.heap.size ≤ b) w' v' sz (n + m) (cs ++ news) → Grew (fun b => Q b) w w' → w'.heap.size ≤ w.heap.size + 1 → wpList Try.prog ops P' rest (a.put o.dst v') w') : wpList Try.prog ops P' (o :: rest) a w := by
  refine wpList_plain hgd fun K hK => ?_
  obtain ⟨v', w', hr, h1, h2, h3⟩ := appC_run' o.type hE hown hsrc hlen hm
  unfold Oper.wp execOp
  simp only [ho, resolve, invoke, builtin, Sem.run_bind, Sem.run_pure, Result.andThen_ok, List.map_toArray, List.map_cons, List.map_nil, hs, hx, hr]
  exact hK _ _ (h v' w' h1 h2 h3)

/-- As one step of a region that draws its order. -/
theorem stepC {ops : Array Oper} {o : Oper} {a : Act} {w : World} {K : Act → World → Prop} {P' : Exit → Act → World → Prop} {E : Prop} (hgd : o.guard = none) (s x : Operand) (t tx : TypeId) (ho : o.op = .call { callee := .builtin .append, args := #[s, x], argTypes := #[t, tx] })
    {Q : Nat → Prop} {v y : Value} {e : TypeId} {sz bytes n m : Nat} {cs news : List Value} (hs : a.eval s = v) (hx : a.eval x = y) (hE : ElemT t e sz bytes) (hown : OwnC Q w v sz n cs) (hsrc : Src Try.prog sz tx y m news w) (hlen : n + m ≤ 16777216) (hm : v = .slice none 0 0 → 0 < m)
    (h : ∀ v' w', OwnC (fun b => Q b ∨ w.heap.size ≤ b) w' v' sz (n + m) (cs ++ news) → Grew (fun b => Q b) w w' → w'.heap.size ≤ w.heap.size + 1 → K (a.put o.dst v') w') : if Region.wanted o (yielded ops a.tmps) = true then Oper.wp Try.prog o a w K P' else E := by
  have hw : Region.wanted o (yielded ops a.tmps) = true := by simp [Region.wanted, hgd]
  rw [if_pos hw]
  obtain ⟨v', w', hr, h1, h2, h3⟩ := appC_run' o.type hE hown hsrc hlen hm
  unfold Oper.wp execOp
  simp only [ho, resolve, invoke, builtin, Sem.run_bind, Sem.run_pure, Result.andThen_ok, List.map_toArray, List.map_cons, List.map_nil, hs, hx, hr]
  exact h v' w' h1 h2 h3

theorem elem57 : ElemT 57 3 1 8 := ⟨Try.underlying57, ⟨_, info3', rfl⟩, by omega⟩
theorem elem22 : ElemT 22 5 1 1 := ⟨Try.underlying22, ⟨_, info5, rfl⟩, by omega⟩
theorem elem74 : ElemT 74 95 3 40 := ⟨Try.underlying74, ⟨_, info95, rfl⟩, by omega⟩
theorem elem33 : ElemT 33 76 2 48 := ⟨Try.underlying33, ⟨_, info76, rfl⟩, by omega⟩

end Go.Proofs.Ytjndcajblpgjmaa
