import Derived.Shelf.Small.Strs
import Derived.Shelf.SlMaps.Clone
import Derived.Shelf.SlIter.Nil
import Derived.Shelf.SortM.Plain
import Derived.Shelf.SortM.SortNone
import Derived.Ground.GgzProg
import Derived.Ground.SlgmProg
import Derived.Ground.SlmcProg
import Derived.Test.YteoddjobpmmgeaaGreatProg
import Derived.Test.YteoddjobpmmgeaaGreatT08
set_option linter.unusedVariables false
set_option linter.unusedSimpArgs false
namespace Go.Proofs.YteoddjobpmmgeaaGreat
section
open Go.Shelf
def Tryz.lays92_ren : Go.Shelf.Ren := ⟨fun | 137 => 92 | 217 => 101 | 266 => 114 | n => n, fun | 9 => 9 | 5 => 5 | 3 => 3 | n => n, fun | n => n⟩
theorem Tryz.lays92 : Go.Proofs.Lays.n137 Tryz.prog Tryz.lays92_ren := {
  mixed := by kernel_rfl
  f137 := Tryz.func92.trans (congrArg some (by kernel_rfl))
  f217 := Tryz.func101.trans (congrArg some (by kernel_rfl))
  f266 := Tryz.func114.trans (congrArg some (by kernel_rfl))
  t3 := Tryz.underlying3
  a3 := Tryz.isAgg3
  z3 := Tryz.sizeOf3
  v3 := Tryz.zeroValue3
  t5 := Tryz.underlying5
  a5 := Tryz.isAgg5
  z5 := Tryz.sizeOf5
  v5 := Tryz.zeroValue5
  t9 := Tryz.underlying9
  a9 := Tryz.isAgg9
  z9 := Tryz.sizeOf9
  v9 := Tryz.zeroValue9 }
def Tryz.clone67_ren : Go.Shelf.Ren := ⟨fun | 5 => 67 | 7 => 84 | n => n, fun | 23 => 65 | 25 => 9 | 3 => 3 | 4 => 4 | 20 => 20 | n => n, fun | n => n⟩
theorem Tryz.clone67 : Go.Proofs.SlLaysW.n5 Tryz.prog Tryz.clone67_ren := {
  mixed := by kernel_rfl
  f5 := ⟨Tryz.f67.name, by decide, Tryz.func67.trans (congrArg some (by kernel_rfl))⟩
  f7 := Tryz.func84.trans (congrArg some (by kernel_rfl))
  t4 := Tryz.underlying4
  a4 := Tryz.isAgg4
  z4 := Tryz.sizeOf4
  v4 := Tryz.zeroValue4
  t20 := Tryz.underlying20
  a20 := Tryz.isAgg20
  z20 := Tryz.sizeOf20
  v20 := Tryz.zeroValue20
  t23 := Tryz.underlying65
  a23 := Tryz.isAgg65
  z23 := Tryz.sizeOf65
  v23 := Tryz.zeroValue65 }
def Tryz.keys69_ren : Go.Shelf.Ren := ⟨fun | 7 => 69 | 10 => 87 | n => n, fun | 23 => 65 | 26 => 9 | 3 => 3 | 28 => 129 | 0 => 0 | 27 => 128 | 33 => 144 | 4 => 4 | n => n, fun | n => n⟩
theorem Tryz.keys69 : Go.Proofs.SlLaysZ.n7 Tryz.prog Tryz.keys69_ren := {
  mixed := by kernel_rfl
  f7 := ⟨Tryz.f69.name, by decide, Tryz.func69.trans (congrArg some (by kernel_rfl))⟩
  f10 := ⟨Tryz.f87.name, by decide, Tryz.func87.trans (congrArg some (by kernel_rfl))⟩
  t0 := Tryz.underlying0
  a0 := Tryz.isAgg0
  z0 := Tryz.sizeOf0
  v0 := Tryz.zeroValue0
  t4 := Tryz.underlying4
  a4 := Tryz.isAgg4
  z4 := Tryz.sizeOf4
  v4 := Tryz.zeroValue4
  t23 := Tryz.underlying65
  a23 := Tryz.isAgg65
  z23 := Tryz.sizeOf65
  v23 := Tryz.zeroValue65
  t26 := Tryz.underlying9
  a26 := Tryz.isAgg9
  z26 := Tryz.sizeOf9
  v26 := Tryz.zeroValue9
  t27 := Tryz.underlying128
  a27 := Tryz.isAgg128
  z27 := Tryz.sizeOf128
  v27 := Tryz.zeroValue128
  t28 := Tryz.underlying129
  a28 := Tryz.isAgg129
  z28 := Tryz.sizeOf129
  v28 := Tryz.zeroValue129
  t33 := Tryz.underlying144
  a33 := Tryz.isAgg144
  z33 := Tryz.sizeOf144
  v33 := Tryz.zeroValue144 }
def Tryz.sorted68_ren : Go.Shelf.Ren := ⟨fun | 6 => 68 | 8 => 85 | 9 => 86 | 11 => 95 | 13 => 97 | 12 => 96 | 23 => 112 | 24 => 113 | 14 => 103 | 15 => 104 | 16 => 105 | 17 => 106 | 18 => 107 | 19 => 108 | 20 => 109 | 21 => 110 | 22 => 111 | 25 => 116 | 26 => 117 | 27 => 118 | 28 => 119 | 29 => 120 | 30 => 121 | 31 => 123 | n => n, fun | 26 => 9 | 28 => 129 | 24 => 126 | 0 => 0 | 3 => 3 | 37 => 154 | 48 => 166 | 50 => 168 | 4 => 4 | 40 => 159 | 39 => 158 | 45 => 92 | 5 => 5 | 9 => 9 | 51 => 169 | 55 => 173 | 57 => 176 | 58 => 75 | 33 => 144 | n => n, fun | n => n⟩
theorem Tryz.sorted68 : Go.Proofs.SlLaysZ.n6 Tryz.prog Tryz.sorted68_ren := {
  mixed := by kernel_rfl
  f6 := ⟨Tryz.f68.name, by decide, Tryz.func68.trans (congrArg some (by kernel_rfl))⟩
  f8 := ⟨Tryz.f85.name, by decide, Tryz.func85.trans (congrArg some (by kernel_rfl))⟩
  f11 := ⟨Tryz.f95.name, by decide, Tryz.func95.trans (congrArg some (by kernel_rfl))⟩
  t0 := Tryz.underlying0
  a0 := Tryz.isAgg0
  z0 := Tryz.sizeOf0
  v0 := Tryz.zeroValue0
  t24 := Tryz.underlying126
  a24 := Tryz.isAgg126
  z24 := Tryz.sizeOf126
  v24 := Tryz.zeroValue126
  t26 := Tryz.underlying9
  a26 := Tryz.isAgg9
  z26 := Tryz.sizeOf9
  v26 := Tryz.zeroValue9
  t28 := Tryz.underlying129
  a28 := Tryz.isAgg129
  z28 := Tryz.sizeOf129
  v28 := Tryz.zeroValue129
  i26 := by kernel_rfl }
def Tryz.sort86_ren : Go.Shelf.Ren := ⟨fun | 6 => 86 | 8 => 97 | 9 => 96 | 19 => 112 | 20 => 113 | 21 => 103 | 22 => 104 | 23 => 105 | 24 => 106 | 25 => 107 | 26 => 108 | 27 => 109 | 28 => 110 | 29 => 111 | 36 => 116 | 31 => 117 | 32 => 118 | 37 => 119 | 38 => 120 | 39 => 121 | 41 => 123 | n => n, fun | 27 => 126 | 29 => 9 | 3 => 3 | 32 => 154 | 26 => 126 | 0 => 0 | 44 => 166 | 46 => 168 | 4 => 4 | 36 => 159 | 35 => 158 | 41 => 92 | 5 => 5 | 9 => 9 | 53 => 169 | 57 => 173 | 63 => 176 | 64 => 75 | n => n, fun | n => n⟩
theorem Tryz.sort86 : Go.Proofs.SlLaysM.n6 Tryz.prog Tryz.sort86_ren := {
  mixed := by kernel_rfl
  f6 := ⟨Tryz.f86.name, by decide, Tryz.func86.trans (congrArg some (by kernel_rfl))⟩
  f8 := Tryz.func97.trans (congrArg some (by kernel_rfl))
  f9 := ⟨Tryz.f96.name, by decide, Tryz.func96.trans (congrArg some (by kernel_rfl))⟩
  f19 := Tryz.func112.trans (congrArg some (by kernel_rfl))
  f20 := Tryz.func113.trans (congrArg some (by kernel_rfl))
  f21 := ⟨Tryz.f103.name, by decide, Tryz.func103.trans (congrArg some (by kernel_rfl))⟩
  f22 := ⟨Tryz.f104.name, by decide, Tryz.func104.trans (congrArg some (by kernel_rfl))⟩
  f23 := ⟨Tryz.f105.name, by decide, Tryz.func105.trans (congrArg some (by kernel_rfl))⟩
  f24 := ⟨Tryz.f106.name, by decide, Tryz.func106.trans (congrArg some (by kernel_rfl))⟩
  f25 := ⟨Tryz.f107.name, by decide, Tryz.func107.trans (congrArg some (by kernel_rfl))⟩
  f26 := ⟨Tryz.f108.name, by decide, Tryz.func108.trans (congrArg some (by kernel_rfl))⟩
  f27 := ⟨Tryz.f109.name, by decide, Tryz.func109.trans (congrArg some (by kernel_rfl))⟩
  f28 := ⟨Tryz.f110.name, by decide, Tryz.func110.trans (congrArg some (by kernel_rfl))⟩
  f29 := ⟨Tryz.f111.name, by decide, Tryz.func111.trans (congrArg some (by kernel_rfl))⟩
  f31 := Tryz.func117.trans (congrArg some (by kernel_rfl))
  f32 := Tryz.func118.trans (congrArg some (by kernel_rfl))
  f36 := ⟨Tryz.f116.name, by decide, Tryz.func116.trans (congrArg some (by kernel_rfl))⟩
  f37 := ⟨Tryz.f119.name, by decide, Tryz.func119.trans (congrArg some (by kernel_rfl))⟩
  f38 := ⟨Tryz.f120.name, by decide, Tryz.func120.trans (congrArg some (by kernel_rfl))⟩
  f39 := ⟨Tryz.f121.name, by decide, Tryz.func121.trans (congrArg some (by kernel_rfl))⟩
  f41 := ⟨Tryz.f123.name, by decide, Tryz.func123.trans (congrArg some (by kernel_rfl))⟩
  t0 := Tryz.underlying0
  a0 := Tryz.isAgg0
  z0 := Tryz.sizeOf0
  v0 := Tryz.zeroValue0
  t3 := Tryz.underlying3
  a3 := Tryz.isAgg3
  z3 := Tryz.sizeOf3
  v3 := Tryz.zeroValue3
  t4 := Tryz.underlying4
  a4 := Tryz.isAgg4
  z4 := Tryz.sizeOf4
  v4 := Tryz.zeroValue4
  t5 := Tryz.underlying5
  a5 := Tryz.isAgg5
  z5 := Tryz.sizeOf5
  v5 := Tryz.zeroValue5
  t9 := Tryz.underlying9
  a9 := Tryz.isAgg9
  z9 := Tryz.sizeOf9
  v9 := Tryz.zeroValue9
  t26 := Tryz.underlying126
  a26 := Tryz.isAgg126
  z26 := Tryz.sizeOf126
  v26 := Tryz.zeroValue126
  t27 := Tryz.underlying126
  a27 := Tryz.isAgg126
  z27 := Tryz.sizeOf126
  v27 := Tryz.zeroValue126
  t29 := Tryz.underlying9
  a29 := Tryz.isAgg9
  z29 := Tryz.sizeOf9
  v29 := Tryz.zeroValue9
  t32 := Tryz.underlying154
  a32 := Tryz.isAgg154
  z32 := Tryz.sizeOf154
  v32 := Tryz.zeroValue154
  t35 := Tryz.underlying158
  a35 := Tryz.isAgg158
  z35 := Tryz.sizeOf158
  v35 := Tryz.zeroValue158
  t36 := Tryz.underlying159
  a36 := Tryz.isAgg159
  z36 := Tryz.sizeOf159
  v36 := Tryz.zeroValue159
  t41 := Tryz.underlying92
  a41 := Tryz.isAgg92
  z41 := Tryz.sizeOf92
  v41 := Tryz.zeroValue92
  t44 := Tryz.underlying166
  a44 := Tryz.isAgg166
  z44 := Tryz.sizeOf166
  v44 := Tryz.zeroValue166
  t46 := Tryz.underlying168
  a46 := Tryz.isAgg168
  z46 := Tryz.sizeOf168
  v46 := Tryz.zeroValue168
  t53 := Tryz.underlying169
  a53 := Tryz.isAgg169
  z53 := Tryz.sizeOf169
  v53 := Tryz.zeroValue169
  t57 := Tryz.underlying173
  a57 := Tryz.isAgg173
  z57 := Tryz.sizeOf173
  v57 := Tryz.zeroValue173
  t63 := Tryz.underlying176
  a63 := Tryz.isAgg176
  z63 := Tryz.sizeOf176
  v63 := Tryz.zeroValue176
  t64 := Tryz.underlying75
  a64 := Tryz.isAgg75
  z64 := Tryz.sizeOf75
  v64 := Tryz.zeroValue75 }
end
section
open Go.RowKit
open M (OpD NodeD Gr)
def flt (code at_ : Int) : List PanicEntry := [{ v := .iface 56 (.agg #[.int .i64 code, .int .i64 at_]), recovered := false }]
structure Rv where
  ta : Option Addr
  tc : Nat
  v2 : Value
  v3 : Value
  v4 : Value
  v5 : Value
  v6 : Value
  v7 : Value
  v8 : Value
abbrev rbc (t : Tx) (r : Rv) (i : Int) : Array Value := #[.slice r.ta t.n r.tc, .int .i64 i, r.v2, r.v3, r.v4, r.v5, r.v6, r.v7, r.v8]
def RB (rb : Nat) (t : Tx) (r : Rv) (i : Nat) (w : World) : Prop := w.heap[rb]? = some (.cells (rbc t r (i : Nat)) 63)
theorem RB.set {rb : Nat} {t : Tx} {r : Rv} {i : Nat} {w : World} (h : RB rb t r i w) {x : Int} (j : Nat) (hx : x = (j : Nat)) : RB rb t r j (w.setCell ⟨rb, 1, none⟩ (.int .i64 x)) := by
  subst hx
  exact blk_set (.int .i64 (j : Nat)) h
theorem RB.lt {rb : Nat} {t : Tx} {r : Rv} {i : Nat} {w : World} (h : RB rb t r i w) : rb < w.heap.size := (Array.getElem?_eq_some_iff.1 h).1
theorem RB.keep {rb : Nat} {t : Tx} {r : Rv} {i : Nat} {w w' : World} (h : RB rb t r i w) (k : Keep (fun _ => False) w w') : RB rb t r i w' := (k.block rb h.lt (fun q => q)).trans h
def TxQ (rb : Nat) (w : World) (a : Option Addr) (t : Tx) : Prop := Ints (fun b => b < w.heap.size ∧ b ≠ rb) .u8 w a t.n t.T
theorem TxQ.keep {rb : Nat} {w w' : World} {a : Option Addr} {t : Tx} (h : TxQ rb w a t) (k : Keep (fun b => b = rb) w w') : TxQ rb w' a t := by
  rcases h with h | ⟨b, off, e, hq, h⟩
  · exact .inl h
  · exact .inr ⟨b, off, e, ⟨Nat.lt_of_lt_of_le hq.1 k.size, hq.2⟩, fun i hi => (k.cell (p := ⟨b, off + i, none⟩) hq.1 hq.2).trans (h i hi)⟩
theorem TxQ.at {rb : Nat} {w : World} {a : Option Addr} {t : Tx} (h : TxQ rb w a t) {i : Nat} (hi : i < t.n) : ∃ b off, a = some ⟨b, off, none⟩ ∧ (b < w.heap.size ∧ b ≠ rb) ∧ ∀ j, j < t.n → w.cell? ⟨b, off + j, none⟩ = some (.int .u8 (t.T j)) := by
  rcases h with h | h
  · omega
  · exact h
def ScIs (res : Option (Int × Nat)) (fr : Int) (rb : Nat) (t : Tx) (r : Rv) (w : World) (e : Ending) (w' : World) : Prop :=
  Keep (fun b => b = rb) w w' ∧ ((∃ c j, res = some (c, j) ∧ e = .returned (.int .u8 c) ∧ RB rb t r j w') ∨ (res = none ∧ e = .panicked (flt 5 fr)))
theorem keepF {rb : Nat} {w w' : World} (k : Keep (fun _ => False) w w') : Keep (fun b => b = rb) w w' := k.mono (fun b q => q.elim)
theorem keepC {rb : Nat} {w W : World} (k : Keep (fun b => b = rb) w W) (o : Nat) (v : Value) : Keep (fun b => b = rb) w (W.setCell ⟨rb, o, none⟩ v) := k.trans (Keep.setCell (C := fun b => b = rb) _ _ _ rfl)
theorem keepD {rb : Nat} {w W : World} (k : Keep (fun b => b = rb) w W) (m : Nat) : Keep (fun b => b = rb) w (W.drewN m) := k.trans (keepF (keep_drewN W m))
def insM (t : Tx) (i : Nat) : Option (Int × Nat) := if i < t.n then some (t.T i, i + 1) else none
set_option maxHeartbeats 1000000 in
set_option maxRecDepth 100000 in
theorem inside_any (rb : Nat) (t : Tx) (r : Rv) (i : Nat) (fr : Int) (w : World) (hB : RB rb t r i w) (hT : TxQ rb w r.ta t) (hi : i ≤ t.n) :
    Calls Tryz.prog 90 #[.pointer (some ⟨rb, 0, none⟩), .int .i64 fr] w (ScIs (insM t i) fr rb t r w) := by
  have hn := t.le
  have HB : Hid (RB rb t r i w) := hB
  have HT : Hid (TxQ rb w r.ta t) := hT
  clear hB hT
  have c0 : w.cell? ⟨rb, 0, none⟩ = some (.slice r.ta t.n r.tc) := blk_cell HB.out rfl
  have c1 : w.cell? ⟨rb, 1, none⟩ = some (.int .i64 (i : Nat)) := blk_cell HB.out rfl
  go_enter Tryz.func90, Tryz.ntmps90
  by_cases hlt : i < t.n
  · have hne : ((i : Int) == (t.n : Int)) = false := by simp; omega
    obtain ⟨b, off, e, hq, hcell⟩ := HT.out.at hlt
    have cT := hcell i hlt
    rw [e] at c0
    have hbne : ¬ b = rb := hq.2
    have hbne' : ¬ rb = b := fun q => hq.2 q.symm
    have f1 : w.frozen? ⟨rb, 1, none⟩ = false := blk_frz HB.out
    have hlt' : (i : Int) < t.n := by omega
    have hsub : ((i : Int) + 1) - 1 = (i : Int) := by omega
    have hwr : IntKind.i64.wrap ((i : Int) + 1 - 1) = (i : Int) := by rw [hsub]; exact wrapI (by omega) (by omega)
    have HFI : Hid (∀ n m, ScIs (insM t i) fr rb t r w (.returned (.int .u8 (t.T i))) (((w.drewN n).setCell ⟨rb, 1, none⟩ (.int .i64 ((i : Int) + 1))).drewN m)) := fun n m =>
      ⟨keepD (keepC (keepF (keep_drewN w n)) _ _) m, .inl ⟨_, _, if_pos hlt, rfl, ((HB.out.keep (keep_drewN w n)).set (i + 1) (by simp)).keep (keep_drewN _ m)⟩⟩
    clear hcell hq e
    go_upto_region 1 with fail
    go_quiet (fail)
    go_upto_region 4 with fail
    have HV : Hid (∀ V, V = (w.drewN nq).setCell ⟨rb, 1, none⟩ (.int .i64 ((i : Int) + 1)) → RB rb t r (i + 1) V ∧ TxQ rb V r.ta t) := fun V hV => by
      subst hV
      exact ⟨(HB.out.keep (keep_drewN w nq)).set (i + 1) (by simp), HT.out.keep (keepC (keepF (keep_drewN w nq)) _ _)⟩
    have HFI2 : Hid (∀ V, V = (w.drewN nq).setCell ⟨rb, 1, none⟩ (.int .i64 ((i : Int) + 1)) → ∀ m, ScIs (insM t i) fr rb t r w (.returned (.int .u8 (t.T i))) (V.drewN m)) := fun V hV m => by subst hV; exact HFI.out nq m
    obtain ⟨V, hV⟩ : ∃ V, V = (w.drewN nq).setCell ⟨rb, 1, none⟩ (.int .i64 ((i : Int) + 1)) := ⟨_, rfl⟩
    obtain ⟨hBV, hTV⟩ := HV.out V hV
    have HF3 : Hid (∀ m, ScIs (insM t i) fr rb t r w (.returned (.int .u8 (t.T i))) (V.drewN m)) := HFI2.out V hV
    rw [← hV]
    obtain ⟨b', off', e', _, hcell'⟩ := hTV.at hlt
    have dT := hcell' i hlt
    have d0 : V.cell? ⟨rb, 0, none⟩ = some (.slice r.ta t.n r.tc) := blk_cell hBV rfl
    have d1 : V.cell? ⟨rb, 1, none⟩ = some (.int .i64 ((i + 1 : Nat) : Int)) := blk_cell hBV rfl
    have hsub' : ((i + 1 : Nat) : Int) - 1 = (i : Int) := by omega
    have hwr' : IntKind.i64.wrap (((i + 1 : Nat) : Int) - 1) = (i : Int) := by rw [hsub']; exact wrapI (by omega) (by omega)
    rw [e'] at d0
    clear hV hBV hTV hcell' e' HV HFI HFI2 c0 c1 cT f1 HB HT
    go_quiet (fail)
    go_wp2
    go_ret
    exact HF3.out _
  · obtain rfl : i = t.n := by omega
    go_upto_region 1 with fail
    go_quiet (fail)
    go_wp2
    exact ⟨rfl, keepF (keep_drewN w _), .inr ⟨by unfold insM; rw [if_neg hlt], rfl⟩⟩
def SkIs (d : Bool) (j : Nat) (rb : Nat) (t : Tx) (r : Rv) (w : World) (e : Ending) (w' : World) : Prop :=
  Keep (fun b => b = rb) w w' ∧ e = .returned (.bool d) ∧ RB rb t r j w'
set_option maxHeartbeats 1000000 in
set_option maxRecDepth 100000 in
theorem skip_any (rb : Nat) (t : Tx) (r : Rv) (i : Nat) (c : Int) (w : World) (hB : RB rb t r i w) (hT : TxQ rb w r.ta t) (hi : i ≤ t.n) :
    Calls Tryz.prog 78 #[.pointer (some ⟨rb, 0, none⟩), .int .u8 c] w (SkIs (decide (i < t.n ∧ t.T i = c)) (if i < t.n ∧ t.T i = c then i + 1 else i) rb t r w) := by
  have hn := t.le
  have HB : Hid (RB rb t r i w) := hB
  have HT : Hid (TxQ rb w r.ta t) := hT
  clear hB hT
  have c0 : w.cell? ⟨rb, 0, none⟩ = some (.slice r.ta t.n r.tc) := blk_cell HB.out rfl
  have c1 : w.cell? ⟨rb, 1, none⟩ = some (.int .i64 (i : Nat)) := blk_cell HB.out rfl
  have f1 : w.frozen? ⟨rb, 1, none⟩ = false := blk_frz HB.out
  have NO : Hid (¬ (i < t.n ∧ t.T i = c) → ∀ n, SkIs (decide (i < t.n ∧ t.T i = c)) (if i < t.n ∧ t.T i = c then i + 1 else i) rb t r w (.returned (.bool false)) (w.drewN n)) := fun h n =>
    ⟨keepF (keep_drewN w n), by rw [decide_eq_false h], by rw [if_neg h]; exact HB.out.keep (keep_drewN w n)⟩
  have YES : Hid ((i < t.n ∧ t.T i = c) → ∀ n, SkIs (decide (i < t.n ∧ t.T i = c)) (if i < t.n ∧ t.T i = c then i + 1 else i) rb t r w (.returned (.bool true)) ((w.drewN n).setCell ⟨rb, 1, none⟩ (.int .i64 ((i : Int) + 1)))) := fun h n =>
    ⟨keepC (keepF (keep_drewN w n)) _ _, by rw [decide_eq_true h], by rw [if_pos h]; exact (HB.out.keep (keep_drewN w n)).set (i + 1) (by simp)⟩
  generalize decide (i < t.n ∧ t.T i = c) = dd at *
  generalize (if i < t.n ∧ t.T i = c then i + 1 else i) = jj at *
  go_enter Tryz.func78, Tryz.ntmps78
  by_cases hlt : i < t.n
  · have hne : ((i : Int) == (t.n : Int)) = false := by simp; omega
    obtain ⟨b, off, e, hq, hcell⟩ := HT.out.at hlt
    have cT := hcell i hlt
    have hlt' : (i : Int) < t.n := by omega
    rw [e] at c0
    clear hcell hq e
    by_cases hc : t.T i = c
    · have Y := Hid.out YES ⟨hlt, hc⟩
      have Y : Hid (∀ n, SkIs dd jj rb t r w (.returned (.bool true)) ((w.drewN n).setCell ⟨rb, 1, none⟩ (.int .i64 ((i : Int) + 1)))) := Y
      rw [hc] at cT
      clear hc NO YES
      go_upto_region 1 with fail
      go_quiet (fail)
      go_wp2
      go_ret
      exact Y.out _
    · have Y : Hid (∀ n, SkIs dd jj rb t r w (.returned (.bool false)) (w.drewN n)) := NO.out (fun q => hc q.2)
      have hc' : (t.T i != c) = true := by simpa using hc
      clear NO YES hc
      go_upto_region 1 with fail
      go_quiet (fail)
      go_wp2
      go_ret
      exact Y.out _
  · have Y : Hid (∀ n, SkIs dd jj rb t r w (.returned (.bool false)) (w.drewN n)) := NO.out (fun q => hlt q.1)
    obtain rfl : i = t.n := by omega
    clear NO YES
    go_upto_region 1 with fail
    go_quiet (fail)
    go_wp2
    go_ret
    exact Y.out _
theorem wrapU {x : Int} (h : 0 ≤ x) (h' : x ≤ 255) : IntKind.u8.wrap x = x := by
  rw [IntKind.wrap_u8]
  omega
def hexM (t : Tx) (i : Nat) : Option (Int × Nat) := if i < t.n then (match hexv (t.T i) with | some x => some ((x : Int), i + 1) | none => none) else none
theorem ScIs.fail {res : Option (Int × Nat)} {fr : Int} {rb : Nat} {t : Tx} {r : Rv} {w w' : World} (k : Keep (fun b => b = rb) w w') (h : res = none) : ScIs res fr rb t r w (.panicked (flt 5 fr)) w' := ⟨k, .inr ⟨h, rfl⟩⟩
theorem ScIs.good {res : Option (Int × Nat)} {fr : Int} {rb : Nat} {t : Tx} {r : Rv} {w w' : World} {c : Int} {j : Nat} (k : Keep (fun b => b = rb) w w') (h : res = some (c, j)) (hB : RB rb t r j w') : ScIs res fr rb t r w (.returned (.int .u8 c)) w' := ⟨k, .inl ⟨c, j, h, rfl, hB⟩⟩
theorem hexv_eq (c : Int) : hexv c = if 48 ≤ c ∧ c ≤ 57 then some (c - 48).toNat else if 97 ≤ c ∧ c ≤ 102 then some (c - 87).toNat else if 65 ≤ c ∧ c ≤ 70 then some (c - 55).toNat else none := rfl
set_option maxHeartbeats 2000000 in
set_option maxRecDepth 100000 in
theorem hexDigit_any (rb : Nat) (t : Tx) (r : Rv) (i : Nat) (fr : Int) (w : World) (hB : RB rb t r i w) (hT : TxQ rb w r.ta t) (hi : i ≤ t.n) :
    Calls Tryz.prog 100 #[.pointer (some ⟨rb, 0, none⟩), .int .i64 fr] w (ScIs (hexM t i) fr rb t r w) := by
  go_enter Tryz.func100, Tryz.ntmps100
  go_wp2_with fail
  refine (inside_any rb t r i fr w hB hT hi).mono ?_
  clear hB hT
  rintro e W ⟨hk, ⟨c, j, hres, rfl, hB'⟩ | ⟨hres, rfl⟩⟩
  · have hlt : i < t.n := by
      unfold insM at hres
      split at hres
      · assumption
      · cases hres
    unfold insM at hres
    rw [if_pos hlt] at hres
    injection hres with hres
    injection hres with e1 e2
    subst e2
    have HK : Hid (Keep (fun b => b = rb) w W) := hk
    have HB : Hid (RB rb t r (i + 1) W) := hB'
    have hb := t.byt i
    rw [e1] at hb
    have HE : Hid (hexM t i = match hexv c with | some x => some ((x : Int), i + 1) | none => none) := by
      show _ = _
      unfold hexM
      rw [if_pos hlt, e1]
    clear hk hB' e1
    obtain ⟨hb0, hb1⟩ := hb
    by_cases a1 : 48 ≤ c <;> by_cases a2 : c ≤ 57 <;> by_cases a3 : 97 ≤ c <;> by_cases a4 : c ≤ 102 <;> by_cases a5 : 65 ≤ c <;> by_cases a6 : c ≤ 70
    all_goals first
      | omega
      | (have w1 : IntKind.u8.wrap (c - 48) = c - 48 := wrapU (by omega) (by omega)
         go_wp2
         go_ret
         exact ScIs.good HK.out (by rw [HE.out, hexv_eq, if_pos ⟨a1, a2⟩]; simp only; congr 2; omega) HB.out)
      | (have w1 : IntKind.u8.wrap (c - 97) = c - 97 := wrapU (by omega) (by omega)
         have w2 : IntKind.u8.wrap (c - 97 + 10) = c - 97 + 10 := wrapU (by omega) (by omega)
         go_wp2
         go_ret
         exact ScIs.good HK.out (by rw [HE.out, hexv_eq, if_neg (by omega), if_pos ⟨a3, a4⟩]; simp only; congr 2; omega) HB.out)
      | (have w1 : IntKind.u8.wrap (c - 65) = c - 65 := wrapU (by omega) (by omega)
         have w2 : IntKind.u8.wrap (c - 65 + 10) = c - 65 + 10 := wrapU (by omega) (by omega)
         go_wp2
         go_ret
         exact ScIs.good HK.out (by rw [HE.out, hexv_eq, if_neg (by omega), if_neg (by omega), if_pos ⟨a5, a6⟩]; simp only; congr 2; omega) HB.out)
      | (go_wp2
         exact ⟨rfl, ScIs.fail HK.out (by rw [HE.out, hexv_eq, if_neg (by omega), if_neg (by omega), if_neg (by omega)])⟩)
  · have hlt : ¬ i < t.n := fun q => by unfold insM at hres; rw [if_pos q] at hres; cases hres
    go_wp2
    exact ⟨rfl, ScIs.fail hk (by unfold hexM; rw [if_neg hlt])⟩
end
end Go.Proofs.YteoddjobpmmgeaaGreat
