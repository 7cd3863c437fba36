import Derived.Test.YteoddjobpmmgeaaGreatT34
import Derived.Test.YteoddjobpmmgeaaGreatT38
set_option linter.unusedVariables false
set_option linter.unusedSimpArgs false
namespace Go.Proofs.YteoddjobpmmgeaaGreat
section
open Go.RowKit
open M (OpD NodeD Gr)
structure BuS (w w0 : World) (T : Nat → Prop) (b1 b2 : Nat) (G : Nat → Nat) (wr : World) (rv lv : Value) (rs cs : List GC) : Prop where
  bg : BG w0 G wr rv lv rs cs
  keep : Keep T w wr
  box : wr.heap[w.heap.size]? = some (.cells #[.map (some b1), .map (some b2)] 67)
  res : wr.heap[w.heap.size + 1]? = some (.cells #[.slice none 0 0, .slice none 0 0] 26)
  var : wr.heap[w.heap.size + 3]? = some (.cells #[rv, lv] 26)
  own : ∀ b, G b ≠ 3 → (T b ∧ b < w.heap.size) ∨ (w.heap.size + 2 ≤ b ∧ b ≠ w.heap.size + 3 ∧ b ≠ w.heap.size + 4)
  le : w0.heap.size ≤ w.heap.size
theorem BuS.sz {w w0 : World} {T : Nat → Prop} {b1 b2 : Nat} {G : Nat → Nat} {wr : World} {rv lv : Value} {rs cs : List GC} (h : BuS w w0 T b1 b2 G wr rv lv rs cs) : w.heap.size + 3 < wr.heap.size := (Array.getElem?_eq_some_iff.1 h.var).1
theorem keepT {w wr wr' : World} {T C : Nat → Prop} (h : Keep T w wr) (k : Keep C wr wr') (hC : ∀ b, C b → b < w.heap.size → T b) : Keep T w wr' :=
  ⟨k.os.trans h.os, k.tape.trans h.tape, k.output.trans h.output, Nat.le_trans h.size k.size, fun b hb hc => (k.block b (Nat.lt_of_lt_of_le hb h.size) (fun q => hc (hC b q hb))).trans (h.block b hb hc)⟩
theorem BuS.step {w w0 : World} {T : Nat → Prop} {b1 b2 : Nat} {G : Nat → Nat} {wr wr' : World} {rv lv : Value} {rs cs : List GC} {C : Nat → Prop} (h : BuS w w0 T b1 b2 G wr rv lv rs cs) (k : Keep C wr wr') (hC : ∀ b, C b → G b = 3 ∧ ((T b ∧ b < w.heap.size) ∨ w.heap.size + 4 ≤ b)) : BuS w w0 T b1 b2 G wr' rv lv rs cs := by
  have hs := h.sz
  refine ⟨h.bg.keep k (fun b q => (hC b q).1), keepT h.keep k (fun b q hb => by rcases (hC b q).2 with z | z; exact z.1; omega), (k.block _ (by omega) (fun q => by rcases (hC _ q).2 with z | z <;> omega)).trans h.box, (k.block _ (by omega) (fun q => by rcases (hC _ q).2 with z | z <;> omega)).trans h.res, (k.block _ (by omega) (fun q => by rcases (hC _ q).2 with z | z <;> omega)).trans h.var, h.own, h.le⟩
theorem BuS.tag {w w0 : World} {T : Nat → Prop} {b1 b2 : Nat} {G : Nat → Nat} {wr : World} {rv lv : Value} {rs cs : List GC} (h : BuS w w0 T b1 b2 G wr rv lv rs cs) (S : Nat → Prop) (t : Nat) (hS : ∀ b, S b → G b = 3 ∧ w0.heap.size ≤ b ∧ ((T b ∧ b < w.heap.size) ∨ (w.heap.size + 5 ≤ b))) : BuS w w0 T b1 b2 (tagS G S t) wr rv lv rs cs :=
  ⟨h.bg.tag S t (fun b q => ⟨(hS b q).1, (hS b q).2.1⟩), h.keep, h.box, h.res, h.var, fun b hb => by
    by_cases z : S b
    · exact (hS b z).2.2.imp id (fun q => ⟨by omega, by omega, by omega⟩)
    · rw [tagS_out z] at hb; exact h.own b hb, h.le⟩
theorem BuS.tag3 {w w0 : World} {T : Nat → Prop} {b1 b2 : Nat} {G : Nat → Nat} {wr : World} {rv lv : Value} {rs cs : List GC} (h : BuS w w0 T b1 b2 G wr rv lv rs cs) {b : Nat} (h1 : ¬ (T b ∧ b < w.heap.size)) (h2 : b < w.heap.size + 2 ∨ b = w.heap.size + 3 ∨ b = w.heap.size + 4) : G b = 3 := by
  by_cases e : G b = 3
  · exact e
  · rcases h.own b e with q | q
    · exact absurd q h1
    · omega
theorem BuS.setL {w w0 : World} {T : Nat → Prop} {b1 b2 : Nat} {G : Nat → Nat} {wr : World} {rv lv : Value} {rs cs : List GC} (h : BuS w w0 T b1 b2 G wr rv lv rs cs) {i j : Nat} {x y : GC} {u : Value} (hx : cs[i]? = some x) (hj : j < 3) (hy : ncL y = (ncL x).set j u) (hn : OwnC (Tg G wr (5 + 4 * i)) wr (.slice y.na y.d.nm.length y.nc) 1 y.d.nm.length (intVs .u8 (lf y.d.nm) y.d.nm.length)) (hb : BodP (Tg G wr (7 + 4 * i)) wr (.slice y.ba y.d.bd.length y.bc) y.d.bd) :
    ∃ g c, lv = .slice (some ⟨g, 0, none⟩) cs.length c ∧ g < wr.heap.size ∧ w.heap.size ≠ g ∧ w.heap.size + 1 ≠ g ∧ w.heap.size + 3 ≠ g ∧ BuS w w0 T b1 b2 G (wr.setCell ⟨g, i * 3 + j, none⟩ u) rv lv rs (cs.set i y) := by
  obtain ⟨g, c, rfl, hg, hc, _⟩ := h.bg.labelAt hx
  have ho := h.own g (by rw [hg.2]; omega)
  have hne : ∀ b, (b < w.heap.size → ¬ T b) → (b < w.heap.size + 2 ∨ b = w.heap.size + 3) → b ≠ g := fun b q1 q2 e => by
    subst e
    rcases ho with z | z
    · exact q1 z.2 z.1
    · omega
  have n0 := hne w.heap.size (fun q => absurd q (by omega)) (by omega)
  have n1 := hne (w.heap.size + 1) (fun q => absurd q (by omega)) (by omega)
  have n3 := hne (w.heap.size + 3) (fun q => absurd q (by omega)) (by omega)
  refine ⟨g, c, rfl, hg.1, n0, n1, n3, ⟨h.bg.putL hx hj hy hg hn hb, keepT h.keep (Keep.setCell (C := fun b => b = g) _ _ _ rfl) (fun b q hb => by subst q; rcases ho with z | z; exact z.1; omega), (Below.heap_setCell _ _ _ _ n0).trans h.box, (Below.heap_setCell _ _ _ _ n1).trans h.res, (Below.heap_setCell _ _ _ _ n3).trans h.var, h.own, h.le⟩⟩
theorem BuS.addR {w w0 : World} {T : Nat → Prop} {b1 b2 : Nat} {G : Nat → Nat} {W2 W4 : World} {rv lv v4 : Value} {rs cs : List GC} {x : GC} (h : BuS w w0 T b1 b2 G W2 rv lv rs cs) (hn : OwnC (Tg G W2 (4 + 4 * rs.length)) W2 (.slice x.na x.d.nm.length x.nc) 1 x.d.nm.length (intVs .u8 (lf x.d.nm) x.d.nm.length)) (hb : BodP (Tg G W2 (6 + 4 * rs.length)) W2 (.slice x.ba x.d.bd.length x.bc) x.d.bd)
    (own : OwnC (fun b => Tg G W2 0 b ∨ W2.heap.size ≤ b) W4 v4 2 (rs.length + 1) (rs.flatMap ncR ++ ncR x)) (g4 : Grew (Tg G W2 0) W2 W4) (h5 : w.heap.size + 5 ≤ W2.heap.size) :
    W4.heap[w.heap.size + 3]? = some (.cells #[rv, lv] 26) ∧ BuS w w0 T b1 b2 (tagN G W2 0) (W4.setCell ⟨w.heap.size + 3, 0, none⟩ v4) v4 lv (rs ++ [x]) cs := by
  have hs := h.sz
  have z4 := g4.size
  have hw : w0.heap.size ≤ W2.heap.size := Nat.le_trans h.le h.keep.size
  have n0 : ∀ b, (b < w.heap.size → ¬ T b) → (b < w.heap.size + 2 ∨ b = w.heap.size + 3) → b < W2.heap.size → W4.heap[b]? = W2.heap[b]? := fun b q1 q2 q3 => g4.block b q3 (fun q => by
    rcases h.own b (by rw [q.2]; omega) with z | z
    · exact q1 z.2 z.1
    · omega)
  have hv := (n0 (w.heap.size + 3) (fun q => absurd q (by omega)) (by omega) (by omega)).trans h.var
  have hbg := h.bg.addRule hw hn hb own g4
  have ht3 : tagN G W2 0 (w.heap.size + 3) = 3 := by
    rw [tagN_old (by omega)]
    exact h.tag3 (fun q => by omega) (by omega)
  have hst : ∀ b, b ≠ w.heap.size + 3 → (W4.setCell ⟨w.heap.size + 3, 0, none⟩ v4).heap[b]? = W4.heap[b]? := fun b q => Below.heap_setCell _ _ _ _ q
  refine ⟨hv, ⟨hbg.on (by rw [size_set]; exact Nat.le_refl _) (fun b _ hg => hst b (fun e => hg (by rw [e]; exact ht3))) (fun _ _ _ => rfl) hbg.new, ?_, (hst _ (by omega)).trans ((n0 _ (fun q => absurd q (by omega)) (by omega) (by omega)).trans h.box), (hst _ (by omega)).trans ((n0 _ (fun q => absurd q (by omega)) (by omega) (by omega)).trans h.res), ?_, fun b hb => ?_, h.le⟩⟩
  · refine ⟨g4.os.trans h.keep.os, g4.tape.trans h.keep.tape, g4.output.trans h.keep.output, by rw [size_set]; exact Nat.le_trans h.keep.size z4, fun b hb' hc => (hst b (by omega)).trans ((g4.block b (by omega) (fun q => ?_)).trans (h.keep.block b hb' hc))⟩
    rcases h.own b (by rw [q.2]; omega) with z | z
    · exact hc z.1
    · omega
  · exact blk_set v4 hv
  · by_cases e : b < W2.heap.size
    · rw [tagN_old e] at hb; exact h.own b hb
    · right; omega
end
section
open Go.RowKit
open M (OpD NodeD Gr)
def NmT (th : List Tok) : Prop := ∀ t ∈ th, BytL t.nm ∧ t.nm.length ≤ 1000000
def addT (ks : List (List Int)) (th : List Tok) : List (List Int) := th.foldl (fun ks t => addN ks t.nm) ks
theorem addT_snoc (ks : List (List Int)) (th : List Tok) (t : Tok) : addT ks (th ++ [t]) = addN (addT ks th) t.nm := by
  unfold addT
  rw [List.foldl_append]
  rfl
theorem addN_len (ks : List (List Int)) (z : List Int) : (addN ks z).length ≤ ks.length + 1 := by
  unfold addN
  split
  · omega
  · rw [List.length_append]; exact Nat.le_refl _
theorem addT_len : ∀ (th : List Tok) (ks : List (List Int)), (addT ks th).length ≤ ks.length + th.length
  | [], ks => Nat.le_refl _
  | t :: r, ks => by
    have h1 := addT_len r (addN ks t.nm)
    have h2 := addN_len ks t.nm
    show (addT (addN ks t.nm) r).length ≤ _
    rw [List.length_cons]
    omega
theorem mem_addT : ∀ {th : List Tok} {ks : List (List Int)} {z : List Int}, z ∈ addT ks th ↔ z ∈ ks ∨ ∃ t ∈ th, t.nm = z
  | [], ks, z => ⟨fun h => .inl h, fun h => h.elim id (fun ⟨t, h, _⟩ => by cases h)⟩
  | t :: r, ks, z => by
    show z ∈ addT (addN ks t.nm) r ↔ _
    rw [mem_addT, mem_addN]
    constructor
    · rintro ((h | h) | ⟨t', h, e⟩)
      · exact .inl h
      · exact .inr ⟨t, List.mem_cons_self .., h.symm⟩
      · exact .inr ⟨t', List.mem_cons_of_mem _ h, e⟩
    · rintro (h | ⟨t', h, e⟩)
      · exact .inl (.inl h)
      · rcases List.mem_cons.1 h with q | q
        · exact .inl (.inr (by rw [← e, q]))
        · exact .inr ⟨t', q, e⟩
theorem ixN_at : ∀ {ls : List (List Int)} {i : Nat} {z : List Int}, ls.Nodup → ls[i]? = some z → ixN ls z = i
  | [], i, z, _, h => by simp at h
  | x :: r, 0, z, _, h => by
    simp at h
    subst h
    simp [ixN, List.idxOf_cons]
  | x :: r, i + 1, z, hn, h => by
    simp at h
    obtain ⟨n1, n2⟩ := List.nodup_cons.1 hn
    have hne : (x == z) = false := by
      simp
      intro e
      exact n1 (by rw [e]; exact List.mem_of_getElem? h)
    have := ixN_at n2 h
    unfold ixN at this ⊢
    rw [List.idxOf_cons, hne, cond_false, this]
theorem tak_snoc {th : List Tok} {k : Nat} {t : Tok} (h : th[k]? = some t) : th.take (k + 1) = th.take k ++ [t] := by
  rw [List.take_add_one, h]; rfl
def FlIs (ks : List (List Int)) (th : List Tok) (w : World) (e : Ending) (w' : World) : Prop :=
  ∃ b ls, e = .returned (.map (some b)) ∧ New w w' b ∧ MapN w' b ls (ixN ls) ∧ Asc ls ∧ (∀ z, z ∈ ls ↔ z ∈ ks ∨ ∃ t ∈ th, t.nm = z) ∧ Keep (fun _ => False) w w'
def flI (ks : List (List Int)) (th : List Tok) (w : World) (v : Value) (wr : World) : Prop :=
  ∃ k : Nat, k ≤ th.length ∧ v = .int .i64 (k : Nat) ∧ (∃ g, MapN wr w.heap.size (addT ks (th.take k)) g) ∧ Keep (fun _ => False) w wr
def flJ (b : Nat) (ls : List (List Int)) (w w0 : World) (v : Value) (wr : World) : Prop :=
  ∃ k : Nat, k ≤ ls.length ∧ v = .int .i64 (k : Nat) ∧ (∃ g, MapN wr b ls g ∧ ∀ i z, i < k → ls[i]? = some z → g z = i) ∧ Keep (fun _ => False) w wr ∧ Keep (fun x => x = b) w0 wr
set_option maxHeartbeats 1000000 in
set_option maxRecDepth 100000 in
theorem findLabels_any (rb b2 : Nat) (ta : Option Addr) (tc : Nat) (ks : List (List Int)) (g0 : List Int → Nat) (th : List Tok) (w : World) (hM : MapN w b2 ks g0) (c8 : w.cell? ⟨rb, 8, none⟩ = some (.slice ta th.length tc))
    (hT : ∀ k t, th[k]? = some t → ∃ g sa sn sc, ta = some ⟨g, 0, none⟩ ∧ g < w.heap.size ∧ ∀ j, j < 4 → w.cell? ⟨g, k * 4 + j, none⟩ = (tkC t (.slice sa sn sc))[j]?) (hq : NmT th) (hl : ks.length + th.length + 1 ≤ 1000000) :
    Calls Tryz.prog 44 #[.pointer (some ⟨rb, 0, none⟩), .map (some b2)] w (FlIs ks th w) := by
  have HM : Hid (MapN w b2 ks g0) := hM
  have HT : Hid (∀ k t, th[k]? = some t → ∃ g sa sn sc, ta = some ⟨g, 0, none⟩ ∧ g < w.heap.size ∧ ∀ j, j < 4 → w.cell? ⟨g, k * 4 + j, none⟩ = (tkC t (.slice sa sn sc))[j]?) := hT
  have HQ : Hid (NmT th) := hq
  have HL : Hid (ks.length + th.length + 1 ≤ 1000000) := hl
  have hthl : th.length ≤ 1000000 := by omega
  have hrb := lt_of_cell c8
  clear hM hT hq hl
  go_enter Tryz.func44, Tryz.ntmps44
  go_wp2_with fail
  refine (clone_any HM.out).mono ?_
  rintro e W1 ⟨rfl, hM1, hK1⟩
  have HM1 : Hid (MapN W1 w.heap.size ks g0) := hM1
  have HK1 : Hid (Keep (fun _ => False) w W1) := hK1
  have d8 : W1.cell? ⟨rb, 8, none⟩ = some (.slice ta th.length tc) := (hK1.cell (p := ⟨rb, 8, none⟩) hrb (fun z => z)).trans c8
  clear hM1 hK1 c8
  go_wp2
  go_loopw [17] (flI ks th w) (fun v _ => th.length - (intOf v).toNat)
  case atStart => exact ⟨0, Nat.zero_le _, rfl, ⟨g0, HM1.out⟩, HK1.out⟩
  case round =>
    obtain ⟨m, hm, rfl, ⟨g1, hM2⟩, hK⟩ := hrel
    have HK : Hid (Keep (fun _ => False) w wr) := hK
    have HM2 : Hid (MapN wr w.heap.size (addT ks (th.take m)) g1) := hM2
    clear hM2 HM1 d8
    by_cases hlt : m < th.length
    · obtain ⟨q, hq⟩ : ∃ q, th[m]? = some q := ⟨_, List.getElem?_eq_getElem hlt⟩
      obtain ⟨g, sa, sn, sc, rfl, hg, hc⟩ := HT.out m q hq
      have y0 : wr.cell? ⟨g, m * 4, none⟩ = some (.int .u8 (kk q.kind)) := (hK.cell (p := ⟨g, m * 4 + 0, none⟩) hg (fun z => z)).trans (hc 0 (by omega))
      have y1 : wr.cell? ⟨g, m * 4 + 1, none⟩ = some (.int .i64 (q.at_ : Nat)) := (hK.cell (p := ⟨g, m * 4 + 1, none⟩) hg (fun z => z)).trans (hc 1 (by omega))
      have y2 : wr.cell? ⟨g, m * 4 + 2, none⟩ = some (.string (str q.nm.length (lf q.nm))) := (hK.cell (p := ⟨g, m * 4 + 2, none⟩) hg (fun z => z)).trans (hc 2 (by omega))
      have y3 : wr.cell? ⟨g, m * 4 + 3, none⟩ = some (.slice sa sn sc) := (hK.cell (p := ⟨g, m * 4 + 3, none⟩) hg (fun z => z)).trans (hc 3 (by omega))
      have hgr : g < wr.heap.size := by have := hK.size; omega
      have hlt' : (m : Int) < (th.length : Int) := by omega
      have HZ : Hid (BytL q.nm ∧ q.nm.length ≤ 1000000) := HQ.out q (List.mem_of_getElem? hq)
      have HLL : Hid ((addT ks (th.take m)).length + 1 ≤ 1000000) := by
        have h1 := addT_len (th.take m) ks
        have h2 := HL.out
        rw [List.length_take] at h1
        have h : (addT ks (th.take m)).length + 1 ≤ 1000000 := by omega
        exact h
      have HMK : Hid (MapN (wr.alloc (.cells #[.int .u8 (kk q.kind), .int .i64 (q.at_ : Nat), .string (str q.nm.length (lf q.nm)), .slice sa sn sc] 59)) w.heap.size (addT ks (th.take m)) g1) := HM2.out.alloc _
      have HI : Hid (∀ W', MapN W' w.heap.size (addN (addT ks (th.take m)) q.nm) (updN g1 q.nm 0) → (wr.alloc (.cells #[.int .u8 (kk q.kind), .int .i64 (q.at_ : Nat), .string (str q.nm.length (lf q.nm)), .slice sa sn sc] 59)).grownBy W' (some w.heap.size) → flI ks th w (.int .i64 ((m : Int) + 1)) W') := fun W' h1 h2 => by
        refine ⟨m + 1, hlt, by simp, ⟨updN g1 q.nm 0, ?_⟩, keep_grown (HK.out.trans (Keep.alloc _ _ _)) h2 (Nat.le_refl _)⟩
        rw [tak_snoc hq, addT_snoc]
        exact h1
      clear hc hK hq
      go_wp2_with (at_mapUpdate; refine putN _ rfl _ _ _ rfl w.heap.size (addT ks (th.take m)) g1 q.nm 0 rfl HMK.out rfl rfl HZ.out.1 HZ.out.2 HLL.out (by omega) ?_; intro W' hM' hg'; have HI2 : Hid (flI ks th w (.int .i64 ((m : Int) + 1)) W') := HI.out W' hM' hg'; clear hM' hg')
      go_roundw
      all_goals first
        | exact HI2.out
        | (simp [intOf]; omega)
    · have hmq : m = th.length := by omega
      have hge : ¬ ((m : Int) < (th.length : Int)) := by omega
      have HM3 : Hid (MapN wr w.heap.size (addT ks th) g1) := by
        have h1 := HM2.out
        rw [hmq, List.take_of_length_le (Nat.le_refl _)] at h1
        exact h1
      clear hmq HM2 hK
      obtain ⟨V, hV⟩ : ∃ x, x = wr := ⟨_, rfl⟩
      subst hV
      go_wp2_with fail
      refine (callsIn_wide.1 (Tryz.maps_Keys_69 (some w.heap.size) V)).mono ?_
      rintro e W3 ⟨rfl, hw3⟩
      obtain rfl := hw3
      go_wp2_with fail
      refine (sorted_any HM3.out).mono ?_
      rintro e W4 ⟨sa, sc, ls, rfl, hp, hA, hK4, hcell⟩
      have HP : Hid (ls.Perm (addT ks th)) := hp
      have HA : Hid (Asc ls) := hA
      have HK4 : Hid (Keep (fun _ => False) w W4) := HK.out.trans hK4
      have HC : Hid (∀ k z, ls[k]? = some z → ∃ g', sa = some ⟨g', 0, none⟩ ∧ New V W4 g' ∧ W4.cell? ⟨g', k, none⟩ = some (.string (str z.length (lf z)))) := hcell
      have HM4 : Hid (MapN W4 w.heap.size ls g1) := (HM3.out.on (hK4.block _ HM3.out.lt (fun z => z))).perm hp.symm
      have hwl : w.heap.size < V.heap.size := HM3.out.lt
      have hlsl : ls.length ≤ 1000000 := HM4.out.len
      clear hp hA hK4 hcell HM3
      go_wp2
      go_loopw [29] (flJ w.heap.size ls w W4) (fun v _ => ls.length - (intOf v).toNat)
      case atStart => exact ⟨0, Nat.zero_le _, rfl, ⟨g1, HM4.out, fun i z h => absurd h (by omega)⟩, HK4.out, Keep.refl _ _⟩
      case round =>
        obtain ⟨n, hn, rfl, ⟨g2, hM5, hix⟩, hK5, hK6⟩ := hrel
        have HM5 : Hid (MapN wr w.heap.size ls g2) := hM5
        have HIX : Hid (∀ i z, i < n → ls[i]? = some z → g2 z = i) := hix
        have HK5 : Hid (Keep (fun _ => False) w wr) := hK5
        have HK6 : Hid (Keep (fun x => x = w.heap.size) W4 wr) := hK6
        clear hM5 hix hK5 hK6 HM4
        by_cases hln : n < ls.length
        · obtain ⟨z, hz⟩ : ∃ z, ls[n]? = some z := ⟨_, List.getElem?_eq_getElem hln⟩
          obtain ⟨g', rfl, hg', hcz⟩ := HC.out n z hz
          have y0 : wr.cell? ⟨g', n, none⟩ = some (.string (str z.length (lf z))) := (HK6.out.cell (p := ⟨g', n, none⟩) hg'.2 (by show ¬ g' = w.heap.size; have := hg'.1; omega)).trans hcz
          have hln' : (n : Int) < (ls.length : Int) := by omega
          have HZ : Hid (BytL z ∧ z.length ≤ 1000000) := ⟨HM5.out.byt z (List.mem_of_getElem? hz), HM5.out.sml z (List.mem_of_getElem? hz)⟩
          have HLL : Hid (ls.length + 1 ≤ 1000000) := by
            have h1 := HP.out.length_eq
            have h2 := addT_len th ks
            have h3 := HL.out
            have h : ls.length + 1 ≤ 1000000 := by omega
            exact h
          have HNL : Hid (n ≤ 1000000) := by
            have h : n ≤ 1000000 := by omega
            exact h
          have HI : Hid (∀ W', MapN W' w.heap.size (addN ls z) (updN g2 z n) → wr.grownBy W' (some w.heap.size) → flJ w.heap.size ls w W4 (.int .i64 ((n : Int) + 1)) W') := fun W' h1 h2 => by
            have hmem := List.mem_of_getElem? hz
            refine ⟨n + 1, hln, by simp, ⟨updN g2 z n, ?_, fun i y hi hy => ?_⟩, keep_grown HK5.out h2 (Nat.le_refl _), ?_⟩
            · unfold addN at h1
              rw [if_pos hmem] at h1
              exact h1
            · unfold updN
              by_cases e : y = z
              · rw [if_pos e]
                have e1 := ixN_at HM5.out.nd hz
                have e2 := ixN_at HM5.out.nd hy
                rw [e] at e2
                omega
              · rw [if_neg e]
                refine HIX.out i y ?_ hy
                have : i ≠ n := fun q => e (by rw [q, hz] at hy; exact (Option.some.inj hy).symm)
                omega
            · have k6 := HK6.out
              exact ⟨h2.os.trans k6.os, h2.tape.trans k6.tape, h2.output.trans k6.output, Nat.le_trans k6.size h2.size, fun x hx hc => (h2.block x (Nat.lt_of_lt_of_le hx k6.size) (fun q => hc (Option.some.inj q))).trans (k6.block x hx hc)⟩
          clear hz hcz hg'
          go_wp2_with (at_mapUpdate; refine putN _ rfl _ _ _ rfl w.heap.size ls g2 z n rfl HM5.out rfl rfl HZ.out.1 HZ.out.2 HLL.out HNL.out ?_; intro W' hM' hg'; have HI2 : Hid (flJ w.heap.size ls w W4 (.int .i64 ((n : Int) + 1)) W') := HI.out W' hM' hg'; clear hM' hg')
          go_roundw
          all_goals first
            | exact HI2.out
            | (simp [intOf]; omega)
        · have hge2 : ¬ ((n : Int) < (ls.length : Int)) := by omega
          have HFI : Hid (FlIs ks th w (.returned (.map (some w.heap.size))) wr) := by
            refine ⟨w.heap.size, ls, rfl, ⟨Nat.le_refl _, HM5.out.lt⟩, HM5.out.congr (fun z hz => ?_), HA.out, fun z => (HP.out.mem_iff).trans mem_addT, HK5.out⟩
            obtain ⟨i, hi⟩ := List.getElem?_of_mem hz
            rw [ixN_at HM5.out.nd hi]
            exact HIX.out i z (by have := (List.getElem?_eq_some_iff.1 hi).1; omega) hi
          go_wp2
          go_ret
          exact HFI.out
end
end Go.Proofs.YteoddjobpmmgeaaGreat
