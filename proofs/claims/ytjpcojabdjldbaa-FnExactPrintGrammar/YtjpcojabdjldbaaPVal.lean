/-
  Trees as values.
-/
import Derived.Test.YtjpcojabdjldbaaPSet
namespace Go.Proofs.Ytjpcojabdjldbaa
open Go.RowKit
open M (OpD NodeD Gr TX byteT setT b1 grp)
set_option linter.unusedVariables false
set_option linter.unusedSimpArgs false

/-- The value v is the tree t; its sets lie in blocks of Qs. -/
def IsV (Qs : Nat → Prop) (w : World) : TX → Value → Prop
  | .empty, v => v = .iface 172 (.agg #[])
  | .set n S, v => ∃ a c, v = .iface 159 (.agg #[.slice a n c]) ∧ Ints Qs .i64 w a n S
  | .ref s, v => v = .iface 162 (.agg #[.string s])
  | .thr s, v => v = .iface 164 (.agg #[.string s])
  | .seq x y, v => ∃ vx vy, v = .iface 166 (.agg #[vx, vy]) ∧ IsV Qs w x vx ∧ IsV Qs w y vy
  | .alt x y, v => ∃ vx vy, v = .iface 167 (.agg #[vx, vy]) ∧ IsV Qs w x vx ∧ IsV Qs w y vy
  | .star x, v => ∃ vx, v = .iface 169 (.agg #[vx]) ∧ IsV Qs w x vx
  | .not x, v => ∃ vx, v = .iface 170 (.agg #[vx]) ∧ IsV Qs w x vx
theorem IsV.on {Qs : Nat → Prop} {w w' : World} (k : Stay Qs w w') (t : TX) : ∀ v, IsV Qs w t v → IsV Qs w' t v := by
  induction t with
  | empty => exact fun v h => h
  | set n S => rintro v ⟨a, c, h1, h2⟩; exact ⟨a, c, h1, h2.on k⟩
  | ref s => exact fun v h => h
  | thr s => exact fun v h => h
  | seq x y ihx ihy => rintro v ⟨vx, vy, h1, h2, h3⟩; exact ⟨vx, vy, h1, ihx _ h2, ihy _ h3⟩
  | alt x y ihx ihy => rintro v ⟨vx, vy, h1, h2, h3⟩; exact ⟨vx, vy, h1, ihx _ h2, ihy _ h3⟩
  | star x ih => rintro v ⟨vx, h1, h2⟩; exact ⟨vx, h1, ih _ h2⟩
  | not x ih => rintro v ⟨vx, h1, h2⟩; exact ⟨vx, h1, ih _ h2⟩
theorem IsV.later {Qs : Nat → Prop} {w w' : World} (k : Below w.heap.size w w') (t : TX) : ∀ v, IsV Qs w t v → IsV Qs w' t v := by
  induction t with
  | empty => exact fun v h => h
  | set n S => rintro v ⟨a, c, h1, h2⟩; exact ⟨a, c, h1, h2.later k⟩
  | ref s => exact fun v h => h
  | thr s => exact fun v h => h
  | seq x y ihx ihy => rintro v ⟨vx, vy, h1, h2, h3⟩; exact ⟨vx, vy, h1, ihx _ h2, ihy _ h3⟩
  | alt x y ihx ihy => rintro v ⟨vx, vy, h1, h2, h3⟩; exact ⟨vx, vy, h1, ihx _ h2, ihy _ h3⟩
  | star x ih => rintro v ⟨vx, h1, h2⟩; exact ⟨vx, h1, ih _ h2⟩
  | not x ih => rintro v ⟨vx, h1, h2⟩; exact ⟨vx, h1, ih _ h2⟩

theorem IsV.iface {Qs : Nat → Prop} {w : World} {t : TX} {v : Value} (h : IsV Qs w t v) : ∃ u p, v = .iface u p := by
  cases t with
  | empty => exact ⟨_, _, h⟩
  | set n S => obtain ⟨a, c, h1, _⟩ := h; exact ⟨_, _, h1⟩
  | ref s => exact ⟨_, _, h⟩
  | thr s => exact ⟨_, _, h⟩
  | seq x y => obtain ⟨_, _, h1, _⟩ := h; exact ⟨_, _, h1⟩
  | alt x y => obtain ⟨_, _, h1, _⟩ := h; exact ⟨_, _, h1⟩
  | star x => obtain ⟨_, h1, _⟩ := h; exact ⟨_, _, h1⟩
  | not x => obtain ⟨_, h1, _⟩ := h; exact ⟨_, _, h1⟩
theorem Gone.rebase {Q : Nat → Prop} {w w1 w' : World} {v : Value} {s : ByteArray} (h : Gone Q w1 w' v s) (k : Below w.heap.size w w1) : Gone Q w w' v s := by
  obtain ⟨Q', h1, h2, h3⟩ := h
  exact ⟨Q', h1, fun b hb => (h2 b hb).imp id (fun q => Nat.le_trans k.size q), (keep_b k).trans h3⟩

theorem meth159 (xs : Array Value) (w : World) : (method 304 159 (.agg xs) "loop.example/s0055/impl.binding").run Try.prog w = .ok (164, .agg xs) w := by kernel_rfl
theorem meth162 (xs : Array Value) (w : World) : (method 304 162 (.agg xs) "loop.example/s0055/impl.binding").run Try.prog w = .ok (165, .agg xs) w := by kernel_rfl
theorem meth164 (xs : Array Value) (w : World) : (method 304 164 (.agg xs) "loop.example/s0055/impl.binding").run Try.prog w = .ok (166, .agg xs) w := by kernel_rfl
theorem meth166 (xs : Array Value) (w : World) : (method 304 166 (.agg xs) "loop.example/s0055/impl.binding").run Try.prog w = .ok (167, .agg xs) w := by kernel_rfl
theorem meth167 (xs : Array Value) (w : World) : (method 304 167 (.agg xs) "loop.example/s0055/impl.binding").run Try.prog w = .ok (168, .agg xs) w := by kernel_rfl
theorem meth169 (xs : Array Value) (w : World) : (method 304 169 (.agg xs) "loop.example/s0055/impl.binding").run Try.prog w = .ok (169, .agg xs) w := by kernel_rfl
theorem meth170 (xs : Array Value) (w : World) : (method 304 170 (.agg xs) "loop.example/s0055/impl.binding").run Try.prog w = .ok (170, .agg xs) w := by kernel_rfl
theorem meth172 (xs : Array Value) (w : World) : (method 304 172 (.agg xs) "loop.example/s0055/impl.binding").run Try.prog w = .ok (171, .agg xs) w := by kernel_rfl
theorem bind164 (x : Value) (w : World) : Calls Try.prog 164 #[.agg #[x]] w fun e w' => e = .returned (.int .i64 4) ∧ Below w.heap.size w w' := by
  go_enter Try.func164, Try.ntmps164
  go_wp2
  go_ret
  exact ⟨rfl, bel1 w _⟩
theorem bind165 (x : Value) (w : World) : Calls Try.prog 165 #[.agg #[x]] w fun e w' => e = .returned (.int .i64 4) ∧ Below w.heap.size w w' := by
  go_enter Try.func165, Try.ntmps165
  go_wp2
  go_ret
  exact ⟨rfl, bel1 w _⟩
theorem bind166 (x : Value) (w : World) : Calls Try.prog 166 #[.agg #[x]] w fun e w' => e = .returned (.int .i64 4) ∧ Below w.heap.size w w' := by
  go_enter Try.func166, Try.ntmps166
  go_wp2
  go_ret
  exact ⟨rfl, bel1 w _⟩
theorem bind167 (x y : Value) (w : World) : Calls Try.prog 167 #[.agg #[x, y]] w fun e w' => e = .returned (.int .i64 1) ∧ Below w.heap.size w w' := by
  go_enter Try.func167, Try.ntmps167
  go_wp2
  go_ret
  exact ⟨rfl, bel1 w _⟩
theorem bind168 (x y : Value) (w : World) : Calls Try.prog 168 #[.agg #[x, y]] w fun e w' => e = .returned (.int .i64 0) ∧ Below w.heap.size w w' := by
  go_enter Try.func168, Try.ntmps168
  go_wp2
  go_ret
  exact ⟨rfl, bel1 w _⟩
theorem bind169 (x : Value) (w : World) : Calls Try.prog 169 #[.agg #[x]] w fun e w' => e = .returned (.int .i64 3) ∧ Below w.heap.size w w' := by
  go_enter Try.func169, Try.ntmps169
  go_wp2
  go_ret
  exact ⟨rfl, bel1 w _⟩
theorem bind170 (x : Value) (w : World) : Calls Try.prog 170 #[.agg #[x]] w fun e w' => e = .returned (.int .i64 2) ∧ Below w.heap.size w w' := by
  go_enter Try.func170, Try.ntmps170
  go_wp2
  go_ret
  exact ⟨rfl, bel1 w _⟩
theorem bind171  (w : World) : Calls Try.prog 171 #[.agg #[]] w fun e w' => e = .returned (.int .i64 4) ∧ Below w.heap.size w w' := by
  go_enter Try.func171, Try.ntmps171
  go_wp2
  go_ret
  exact ⟨rfl, bel1 w _⟩
theorem as159_159 (xs : Array Value) (w : World) : (Instr.typeAssert (.iface 159 (.agg xs)) 73 159 true).run Try.prog w = .ok (.tuple #[.agg xs, .bool true]) w := by kernel_rfl
theorem as162_159 (xs : Array Value) (w : World) : (Instr.typeAssert (.iface 162 (.agg xs)) 73 159 true).run Try.prog w = .ok (.tuple #[.agg #[.slice none 0 0], .bool false]) w := by kernel_rfl
theorem as162_162 (xs : Array Value) (w : World) : (Instr.typeAssert (.iface 162 (.agg xs)) 73 162 true).run Try.prog w = .ok (.tuple #[.agg xs, .bool true]) w := by kernel_rfl
theorem as164_159 (xs : Array Value) (w : World) : (Instr.typeAssert (.iface 164 (.agg xs)) 73 159 true).run Try.prog w = .ok (.tuple #[.agg #[.slice none 0 0], .bool false]) w := by kernel_rfl
theorem as164_162 (xs : Array Value) (w : World) : (Instr.typeAssert (.iface 164 (.agg xs)) 73 162 true).run Try.prog w = .ok (.tuple #[.agg #[.string ⟨#[]⟩], .bool false]) w := by kernel_rfl
theorem as164_164 (xs : Array Value) (w : World) : (Instr.typeAssert (.iface 164 (.agg xs)) 73 164 true).run Try.prog w = .ok (.tuple #[.agg xs, .bool true]) w := by kernel_rfl
theorem as166_159 (xs : Array Value) (w : World) : (Instr.typeAssert (.iface 166 (.agg xs)) 73 159 true).run Try.prog w = .ok (.tuple #[.agg #[.slice none 0 0], .bool false]) w := by kernel_rfl
theorem as166_162 (xs : Array Value) (w : World) : (Instr.typeAssert (.iface 166 (.agg xs)) 73 162 true).run Try.prog w = .ok (.tuple #[.agg #[.string ⟨#[]⟩], .bool false]) w := by kernel_rfl
theorem as166_164 (xs : Array Value) (w : World) : (Instr.typeAssert (.iface 166 (.agg xs)) 73 164 true).run Try.prog w = .ok (.tuple #[.agg #[.string ⟨#[]⟩], .bool false]) w := by kernel_rfl
theorem as166_166 (xs : Array Value) (w : World) : (Instr.typeAssert (.iface 166 (.agg xs)) 73 166 true).run Try.prog w = .ok (.tuple #[.agg xs, .bool true]) w := by kernel_rfl
theorem as167_159 (xs : Array Value) (w : World) : (Instr.typeAssert (.iface 167 (.agg xs)) 73 159 true).run Try.prog w = .ok (.tuple #[.agg #[.slice none 0 0], .bool false]) w := by kernel_rfl
theorem as167_162 (xs : Array Value) (w : World) : (Instr.typeAssert (.iface 167 (.agg xs)) 73 162 true).run Try.prog w = .ok (.tuple #[.agg #[.string ⟨#[]⟩], .bool false]) w := by kernel_rfl
theorem as167_164 (xs : Array Value) (w : World) : (Instr.typeAssert (.iface 167 (.agg xs)) 73 164 true).run Try.prog w = .ok (.tuple #[.agg #[.string ⟨#[]⟩], .bool false]) w := by kernel_rfl
theorem as167_166 (xs : Array Value) (w : World) : (Instr.typeAssert (.iface 167 (.agg xs)) 73 166 true).run Try.prog w = .ok (.tuple #[.agg #[.nilIface, .nilIface], .bool false]) w := by kernel_rfl
theorem as167_167 (xs : Array Value) (w : World) : (Instr.typeAssert (.iface 167 (.agg xs)) 73 167 true).run Try.prog w = .ok (.tuple #[.agg xs, .bool true]) w := by kernel_rfl
theorem as169_159 (xs : Array Value) (w : World) : (Instr.typeAssert (.iface 169 (.agg xs)) 73 159 true).run Try.prog w = .ok (.tuple #[.agg #[.slice none 0 0], .bool false]) w := by kernel_rfl
theorem as169_162 (xs : Array Value) (w : World) : (Instr.typeAssert (.iface 169 (.agg xs)) 73 162 true).run Try.prog w = .ok (.tuple #[.agg #[.string ⟨#[]⟩], .bool false]) w := by kernel_rfl
theorem as169_164 (xs : Array Value) (w : World) : (Instr.typeAssert (.iface 169 (.agg xs)) 73 164 true).run Try.prog w = .ok (.tuple #[.agg #[.string ⟨#[]⟩], .bool false]) w := by kernel_rfl
theorem as169_166 (xs : Array Value) (w : World) : (Instr.typeAssert (.iface 169 (.agg xs)) 73 166 true).run Try.prog w = .ok (.tuple #[.agg #[.nilIface, .nilIface], .bool false]) w := by kernel_rfl
theorem as169_167 (xs : Array Value) (w : World) : (Instr.typeAssert (.iface 169 (.agg xs)) 73 167 true).run Try.prog w = .ok (.tuple #[.agg #[.nilIface, .nilIface], .bool false]) w := by kernel_rfl
theorem as169_169 (xs : Array Value) (w : World) : (Instr.typeAssert (.iface 169 (.agg xs)) 73 169 true).run Try.prog w = .ok (.tuple #[.agg xs, .bool true]) w := by kernel_rfl
theorem as170_159 (xs : Array Value) (w : World) : (Instr.typeAssert (.iface 170 (.agg xs)) 73 159 true).run Try.prog w = .ok (.tuple #[.agg #[.slice none 0 0], .bool false]) w := by kernel_rfl
theorem as170_162 (xs : Array Value) (w : World) : (Instr.typeAssert (.iface 170 (.agg xs)) 73 162 true).run Try.prog w = .ok (.tuple #[.agg #[.string ⟨#[]⟩], .bool false]) w := by kernel_rfl
theorem as170_164 (xs : Array Value) (w : World) : (Instr.typeAssert (.iface 170 (.agg xs)) 73 164 true).run Try.prog w = .ok (.tuple #[.agg #[.string ⟨#[]⟩], .bool false]) w := by kernel_rfl
theorem as170_166 (xs : Array Value) (w : World) : (Instr.typeAssert (.iface 170 (.agg xs)) 73 166 true).run Try.prog w = .ok (.tuple #[.agg #[.nilIface, .nilIface], .bool false]) w := by kernel_rfl
theorem as170_167 (xs : Array Value) (w : World) : (Instr.typeAssert (.iface 170 (.agg xs)) 73 167 true).run Try.prog w = .ok (.tuple #[.agg #[.nilIface, .nilIface], .bool false]) w := by kernel_rfl
theorem as170_169 (xs : Array Value) (w : World) : (Instr.typeAssert (.iface 170 (.agg xs)) 73 169 true).run Try.prog w = .ok (.tuple #[.agg #[.nilIface], .bool false]) w := by kernel_rfl
theorem as170_170 (xs : Array Value) (w : World) : (Instr.typeAssert (.iface 170 (.agg xs)) 73 170 true).run Try.prog w = .ok (.tuple #[.agg xs, .bool true]) w := by kernel_rfl
theorem as172_159 (xs : Array Value) (w : World) : (Instr.typeAssert (.iface 172 (.agg xs)) 73 159 true).run Try.prog w = .ok (.tuple #[.agg #[.slice none 0 0], .bool false]) w := by kernel_rfl
theorem as172_162 (xs : Array Value) (w : World) : (Instr.typeAssert (.iface 172 (.agg xs)) 73 162 true).run Try.prog w = .ok (.tuple #[.agg #[.string ⟨#[]⟩], .bool false]) w := by kernel_rfl
theorem as172_164 (xs : Array Value) (w : World) : (Instr.typeAssert (.iface 172 (.agg xs)) 73 164 true).run Try.prog w = .ok (.tuple #[.agg #[.string ⟨#[]⟩], .bool false]) w := by kernel_rfl
theorem as172_166 (xs : Array Value) (w : World) : (Instr.typeAssert (.iface 172 (.agg xs)) 73 166 true).run Try.prog w = .ok (.tuple #[.agg #[.nilIface, .nilIface], .bool false]) w := by kernel_rfl
theorem as172_167 (xs : Array Value) (w : World) : (Instr.typeAssert (.iface 172 (.agg xs)) 73 167 true).run Try.prog w = .ok (.tuple #[.agg #[.nilIface, .nilIface], .bool false]) w := by kernel_rfl
theorem as172_169 (xs : Array Value) (w : World) : (Instr.typeAssert (.iface 172 (.agg xs)) 73 169 true).run Try.prog w = .ok (.tuple #[.agg #[.nilIface], .bool false]) w := by kernel_rfl
theorem as172_170 (xs : Array Value) (w : World) : (Instr.typeAssert (.iface 172 (.agg xs)) 73 170 true).run Try.prog w = .ok (.tuple #[.agg #[.nilIface], .bool false]) w := by kernel_rfl

/-- What appendExpr does, for the places where no parentheses are needed. -/
def Core (t : TX) : Prop := ∀ (Q Qs : Nat → Prop) (v ve : Value) (r : ByteArray) (w : World) (least : Int), least ≤ t.bind → 0 ≤ least → OutQ Q w v r → IsV Qs w t ve → Apart Qs Q w → t.Fine → r.size + t.text.size ≤ 12000000 →
  Calls Try.prog 91 #[v, ve, .int .i64 least] w (Puts Q r t.text w)
def Full (t : TX) : Prop := ∀ (Q Qs : Nat → Prop) (v ve : Value) (r : ByteArray) (w : World) (least : Int), 0 ≤ least → least ≤ 4 → OutQ Q w v r → IsV Qs w t ve → Apart Qs Q w → t.Fine → r.size + (grp (t.bind < least) t.text).size ≤ 12000000 →
  Calls Try.prog 91 #[v, ve, .int .i64 least] w (Puts Q r (grp (t.bind < least) t.text) w)


end Go.Proofs.Ytjpcojabdjldbaa
