/-
  Walks: the places of a line, a sequence made of another.
-/
import Derived.Test.YtcllnadfbmkigaaChars
import Derived.RangeFuncBox
namespace Go.Proofs.Ytcllnadfbmkigaa
open Go.RowKit Go.Shelf
set_option linter.unusedVariables false
attribute [local go_sem] Oper.semAt_some

/-- The next place behind (c, p). -/
def plNext (B : Nat → Int) (m : Nat) (s : Nat × Nat) : Nat × Nat := (s.1 + 1, if s.2 < m then s.2 + M.cl B m s.2 else m + 1)

/-- What the iterator's own blocks hold between two rounds: yield in a box at y, the column in a box at y + 1, the characters' slice in a box at y + 2. -/
structure PlOwn (w : World) (l y bx b m c : Nat) (x : World) : Prop where
  col : x.cell? ⟨y + 1, 0, none⟩ = some (.int .i64 c)
  colf : x.frozen? ⟨y + 1, 0, none⟩ = false
  yb : x.cell? ⟨y, 0, none⟩ = some (.func (.yield l) #[] #[])
  d : ∀ k, (k = bx ∨ (k = b ∧ 0 < m)) → x.heap[k]? = w.heap[k]?
  size : y + 3 ≤ x.heap.size

theorem PlOwn.below {w : World} {l y bx b m c : Nat} {x z : World} (h : PlOwn w l y bx b m c x) (hb : Below (y + 3) x z) (hd : ∀ k, (k = bx ∨ (k = b ∧ 0 < m)) → k < y) : PlOwn w l y bx b m c z :=
  ⟨(hb.cell (p := ⟨y + 1, 0, none⟩) (by show y + 1 < y + 3; omega)).trans h.col, (hb.frozen (p := ⟨y + 1, 0, none⟩) (by show y + 1 < y + 3; omega)).trans h.colf,
    (hb.cell (p := ⟨y, 0, none⟩) (by show y < y + 3; omega)).trans h.yb, fun k hk => (hb.block k (by have := hd k hk; omega)).trans (h.d k hk), Nat.le_trans h.size hb.size⟩

set_option maxRecDepth 100000 in
set_option maxHeartbeats 4000000 in
theorem places_gives (bx num from_ b off m cap : Nat) (a : Option Addr) (B : Nat → Int) (w : World) (hb0 : w.cell? ⟨bx, 0, none⟩ = some (.int .i64 num)) (hb1 : w.cell? ⟨bx, 1, none⟩ = some (.int .i64 from_)) (hb2 : w.cell? ⟨bx, 2, none⟩ = some (.slice a m cap))
    (hB : Tx w b off m B) (hb : ∀ i, 0 ≤ B i ∧ B i ≤ 255) (hm : m ≤ 1048576) (hf : from_ ≤ 1048576) (hcap : m ≤ cap) (hA : 0 < m → a = some ⟨b, off, none⟩) :
    Gives Try.prog 17 #[.pointer (some ⟨bx, 0, none⟩)] ((1, 0) : Nat × Nat) (fun s => s.2 ≤ m) (plNext B m) (fun s => #[.int .i64 (s.1 : Nat), .int .i64 (from_ + s.2 : Nat)]) (fun k => k = bx ∨ (k = b ∧ 0 < m)) w := by
  intro l C J Jx W hsz hD hDC hCW hJ hJx hY h0
  have hdep : Fence.wide.depth = none := rfl
  have hbxl : bx < w.heap.size := lt_of_cell hb0
  have hDl : ∀ k, (k = bx ∨ (k = b ∧ 0 < m)) → k < W.heap.size := fun k hk => by
    rcases hk with rfl | ⟨rfl, hm0⟩
    · omega
    · have := lt_of_cell (hB 0 hm0); exact Nat.lt_of_lt_of_le this hsz
  have hc0 : W.cell? ⟨bx, 0, none⟩ = some (.int .i64 num) := (World.cell?_of_block (a := ⟨bx, 0, none⟩) (hD bx (.inl rfl))).trans hb0
  have hc1 : W.cell? ⟨bx, 1, none⟩ = some (.int .i64 from_) := (World.cell?_of_block (a := ⟨bx, 1, none⟩) (hD bx (.inl rfl))).trans hb1
  have hc2 : W.cell? ⟨bx, 2, none⟩ = some (.slice a m cap) := (World.cell?_of_block (a := ⟨bx, 2, none⟩) (hD bx (.inl rfl))).trans hb2
  have hbW : bx < W.heap.size := by omega
  refine callsIn_of_wp_marks Try.func17 rfl trivial ?_ rfl
  simp only [Try.ntmps17, List.size_toArray, List.length_cons, List.length_nil, Nat.reduceAdd, Nat.reduceSub, Array.replicate_succ, Array.replicate_zero, List.push_toArray, List.append_toArray, List.nil_append, List.cons_append]
  gi_wp2_with (refine ⟨trivial, ?_⟩; gi_at_call 18; refine (characters_in _ _ _ _).mono ?_; rintro e w' ⟨rfl, rfl⟩)
  obtain ⟨Wl, hWl⟩ : ∃ Wl, ((W.alloc (Obj.cells #[Value.func (Fn.yield l) #[] #[]] 34)).alloc (Obj.cells #[Value.int IntKind.i64 1] 3)).alloc (Obj.cells #[Value.slice a m cap] 22) = Wl := ⟨_, rfl⟩
  have sWl : Wl.heap.size = W.heap.size + 3 := by rw [← hWl]; simp
  have bWl : Below W.heap.size W Wl := by rw [← hWl]; exact (((Below.refl _ W).alloc (Nat.le_refl _) _).alloc (by simp) _).alloc (by simp; omega) _
  have hyb : Wl.cell? ⟨W.heap.size, 0, none⟩ = some (.func (.yield l) #[] #[]) := by rw [← hWl]; exact cellOn _ (cellOn _ (cellNew W _ 34))
  have hcb := cellNew (W.alloc (Obj.cells #[Value.func (Fn.yield l) #[] #[]] 34)) (.int .i64 1) 3
  have hcg := frozenNew (W.alloc (Obj.cells #[Value.func (Fn.yield l) #[] #[]] 34)) (.int .i64 1) 3
  rw [World.size_alloc] at hcb hcg
  have hco : Wl.cell? ⟨W.heap.size + 1, 0, none⟩ = some (.int .i64 (1 : Nat)) := by rw [← hWl]; exact cellOn _ hcb
  have hcf : Wl.frozen? ⟨W.heap.size + 1, 0, none⟩ = false := by rw [← hWl]; exact frozenOn _ hcb hcg
  have hxb := cellNew ((W.alloc (Obj.cells #[Value.func (Fn.yield l) #[] #[]] 34)).alloc (Obj.cells #[Value.int IntKind.i64 1] 3)) (.slice a m cap) 22
  rw [World.size_alloc, World.size_alloc] at hxb
  have xWl : Wl.cell? ⟨W.heap.size + 1 + 1, 0, none⟩ = some (.slice a m cap) := by rw [← hWl]; exact hxb
  have oWl : PlOwn w l W.heap.size bx b m 1 Wl := ⟨hco, hcf, hyb, fun k hk => (bWl.block k (hDl k hk)).trans (hD k hk), by omega⟩
  have tWl : Tx Wl b off m B := sameTx hB (fun h => oWl.d b (.inr ⟨rfl, h⟩))
  rw [hWl]
  clear hWl hyb hcg hcb hco hcf hxb hc0 hc1 hc2
  refine range_law (gf := 21) (lb := #[.pointer (some ⟨W.heap.size + 1 + 1, 0, none⟩)]) rfl (enters_of Try.func21 (by kernel_rfl) rfl)
    (chars_gives (W.heap.size + 1 + 1) b off m cap a B Wl xWl tWl hb hm hcap hA) (fun _ => rfl) ?hD (fun k => C k ∨ k = W.heap.size + 1) ?hCD ?hCw
    (fun p x => ∃ c : Nat, c ≤ p + 1 ∧ p ≤ m ∧ J (c, p) x ∧ PlOwn w l W.heap.size bx b m c x)
    (fun cd p x => cd = .ret ∧ ∃ c : Nat, p ≤ m ∧ Jx (c, p) x ∧ W.heap.size + 3 ≤ x.heap.size) ?hI ?hIx ⟨1, by omega, Nat.zero_le _, hJ _ _ _ h0 bWl, oWl⟩ ?round ?done ?stop
  case hD =>
    rintro k (rfl | ⟨rfl, hm0⟩)
    · omega
    · have := hDl k (.inr ⟨rfl, hm0⟩); omega
  case hCD =>
    rintro k (rfl | ⟨rfl, hm0⟩) (hc | hc)
    · exact hCW _ (by omega) hc
    · omega
    · exact hDC k (.inr ⟨rfl, hm0⟩) hc
    · have := hDl k (.inr ⟨rfl, hm0⟩); omega
  case hCw =>
    rintro k hk (hc | hc)
    · exact hCW k (by omega) hc
    · omega
  case hI =>
    rintro p A E ⟨c, hc, hpm, hj, ho⟩ hbel
    exact ⟨c, hc, hpm, hJ _ _ _ hj (hbel.mono (by omega)), ho.below (hbel.mono (by omega)) hDl⟩
  case hIx =>
    rintro cd p A E ⟨rfl, c, hpm, hj, hs⟩ hbel
    exact ⟨rfl, c, hpm, hJx _ _ _ hj (hbel.mono (by omega)), Nat.le_trans hs hbel.size⟩
  case round =>
    intro l' p x hl1 hl2 hIx hlt
    gi_wp2
    refine ⟨Keep.refl _ _, hIx, ?_⟩
    clear hIx
    rintro x2 hk2 hs2 ⟨c, hc, hpm, hJs, ho⟩
    have k0 : x2.cell? ⟨bx, 1, none⟩ = some (.int .i64 from_) := (World.cell?_of_block (a := ⟨bx, 1, none⟩) (ho.d bx (.inl rfl))).trans hb1
    have k1 := ho.col
    have k2 := ho.yb
    obtain ⟨fn, tmps, assign, body, hy, hR⟩ := hY (c, p) x2 hJs hpm
    simp only [Int.natCast_add] at hy
    have hpm' : p ≤ 1048576 := by omega
    gi_wp2
    refine hR.mono ?_
    rintro e x3 (⟨rfl, hJ3, hk3⟩ | ⟨rfl, hJx3, hk3⟩)
    · have hsx := ho.size
      have j1 : x3.cell? ⟨W.heap.size + 1, 0, none⟩ = some (.int .i64 c) := (hk3.cell (p := ⟨W.heap.size + 1, 0, none⟩) (by show W.heap.size + 1 < _; omega) (hCW _ (by show _ ≤ W.heap.size + 1; omega))).trans ho.col
      have j2 : x3.frozen? ⟨W.heap.size + 1, 0, none⟩ = false := (hk3.frozen (p := ⟨W.heap.size + 1, 0, none⟩) (by show W.heap.size + 1 < _; omega) (hCW _ (by show _ ≤ W.heap.size + 1; omega))).trans ho.colf
      have hpn : plNext B m (c, p) = (c + 1, p + M.cl B m p) := by simp [plNext, hlt]
      rw [hpn] at hJ3
      have hc4 := M.cl_pos B m p
      have hc5 := M.cl_le B m p hlt
      gi_wp2
      have hset : Below W.heap.size x3 (x3.setCell ⟨W.heap.size + 1, 0, none⟩ (.int .i64 (c + 1))) := (Below.refl _ x3).setCell (p := ⟨W.heap.size + 1, 0, none⟩) (by show _ ≤ W.heap.size + 1; omega) _
      refine ⟨(hk3.mono fun _ => .inl).trans (Keep.setCell _ _ _ (.inr rfl)), c + 1, by omega, hc5, hJ _ _ _ hJ3 hset, ?_, ?_, ?_, ?_, ?_⟩
      · rw [Int.natCast_add]
        exact World.cell?_setCell_same' _ _ _ (by rw [j1]; rfl)
      · rw [World.frozen?_setCell]; exact j2
      · refine (World.cell?_of_block (a := ⟨W.heap.size, 0, none⟩) (Below.heap_setCell _ _ _ _ (by show W.heap.size ≠ W.heap.size + 1; omega))).trans ?_
        exact (hk3.cell (p := ⟨W.heap.size, 0, none⟩) (by show W.heap.size < _; omega) (hCW _ (Nat.le_refl _))).trans ho.yb
      · intro k hk
        have := hDl k hk
        exact (hset.block k this).trans ((hk3.block k (by omega) (hDC k hk)).trans (ho.d k hk))
      · have := hset.size
        have := hk3.size
        omega
    · have hsx := ho.size
      gi_wp2
      exact ⟨hk3.mono fun _ => .inl, rfl, c, hpm, hJx3, Nat.le_trans hsx hk3.size⟩
  case done =>
    rintro d p x hd hnm ⟨c, hc, hpm, hJs, ho⟩ hK
    obtain rfl : p = m := by omega
    have k0 : x.cell? ⟨bx, 1, none⟩ = some (.int .i64 from_) := (World.cell?_of_block (a := ⟨bx, 1, none⟩) (ho.d bx (.inl rfl))).trans hb1
    have k00 : x.cell? ⟨bx, 0, none⟩ = some (.int .i64 num) := (World.cell?_of_block (a := ⟨bx, 0, none⟩) (ho.d bx (.inl rfl))).trans hb0
    have k02 : x.cell? ⟨bx, 2, none⟩ = some (.slice a p cap) := (World.cell?_of_block (a := ⟨bx, 2, none⟩) (ho.d bx (.inl rfl))).trans hb2
    have k1 := ho.col
    have k2 := ho.yb
    have hbel : Below W.heap.size x ((x.alloc (.cells #[.int .i64 num, .int .i64 from_, .slice a p cap] 29)).drew) := ((Below.refl _ x).alloc (by have := ho.size; omega) _).drew
    obtain ⟨fn, tmps, assign, body, hy, hR⟩ := hY (c, p) _ (hJ _ _ _ hJs hbel) (Nat.le_refl _)
    simp only [Int.natCast_add] at hy
    have hR' := hR.mono (R' := fun e z => ∃ bv : Bool, e = .returned (.bool bv) ∧ Keep C ((x.alloc (.cells #[.int .i64 num, .int .i64 from_, .slice a p cap] 29)).drew) z ∧ (J (plNext B p (c, p)) z ∨ Jx (c, p) z)) (by
      rintro e z (⟨rfl, h1, h2⟩ | ⟨rfl, h1, h2⟩)
      · exact ⟨true, rfl, h2, .inl h1⟩
      · exact ⟨false, rfl, h2, .inr h1⟩)
    clear hR
    have q0 : W.heap.size < x.heap.size := by have := ho.size; omega
    have q1 : W.heap.size + 1 < x.heap.size := by have := ho.size; omega
    have q2 : bx < x.heap.size := by omega
    have fin : Hid (∀ z, Keep C ((x.alloc (.cells #[.int .i64 num, .int .i64 from_, .slice a p cap] 29)).drew) z ∧ (J (plNext B p (c, p)) z ∨ Jx (c, p) z) →
        z.heap[d]? = some (.deferred (some [])) ∧ ((∃ s : Nat × Nat, ¬ s.2 ≤ p ∧ J s (z.putObj d (.deferred none))) ∨ (∃ s : Nat × Nat, s.2 ≤ p ∧ Jx s (z.putObj d (.deferred none))))) := by
      rintro z ⟨hkz, hz⟩
      have hdx : d < x.heap.size := (Array.getElem?_eq_some_iff.1 hK).1
      have hzs := hkz.size
      have e : (x.alloc (.cells #[.int .i64 num, .int .i64 from_, .slice a p cap] 29)).drew.heap.size = x.heap.size + 1 := World.size_alloc _ _
      rw [e] at hzs
      refine ⟨(hkz.block d (by rw [e]; omega) (hCW d (by omega))).trans ((Below.heap_alloc x _ d hdx).trans hK), ?_⟩
      rcases hz with hz | hz
      · exact .inl ⟨_, by simp [plNext], hJ _ _ _ hz (belowPut _ _ (by omega) (by omega))⟩
      · exact .inr ⟨(c, p), Nat.le_refl _, hJx _ _ _ hz (belowPut _ _ (by omega) (by omega))⟩
    have hmo : Try.prog.follows .mixedOrders = true := by kernel_rfl
    gi_wp2
    gi_region_with_o (first | (refine ⟨trivial, ?_⟩; gi_at_call 19; refine (end_in _ _ _ _ _ _ (by omega) (by omega)).mono ?_; rintro e w' ⟨rfl, rfl⟩) | (gi_at_call 19; refine (end_in _ _ _ _ _ _ (by omega) (by omega)).mono ?_; rintro e w' ⟨rfl, rfl⟩) | (refine hR'.mono ?_; rintro e z ⟨bv, rfl, hz⟩))
    all_goals
      obtain ⟨hKz, hfz⟩ := fin.out z hz
      refine ⟨by simp, .inl ⟨_, _, rfl, run_takeDeferred hKz, ?_⟩⟩
      exact ⟨_, results_none rfl _ _ _, ⟨_, rfl⟩, hfz⟩
  case stop =>
    rintro d cd p x hd hm ⟨rfl, c, hpm, hj, hs⟩ hK
    gi_wp2
    refine ⟨by simp, .inl ⟨_, _, rfl, run_takeDeferred hK, ?_⟩⟩
    exact ⟨_, results_none rfl _ _ _, ⟨_, rfl⟩, .inr ⟨(c, p), hpm, hJx _ _ _ hj (belowPut _ _ (by omega) (by omega))⟩⟩

end Go.Proofs.Ytcllnadfbmkigaa
