/-
  What the checks ask of an expression: the value of an element, by those of its operands.
-/
import Derived.Test.YtjpcojabdjldbaaMeans
namespace Go.Proofs.Ytjpcojabdjldbaa
open Go.RowKit
open M (OpD NodeD Gr)
set_option linter.unusedVariables false
set_option linter.unusedSimpArgs false

structure Opn where
  nul : Bool
  beg : NS
  loop : Bool
instance : Inhabited Opn := ⟨⟨false, nz, false⟩⟩
def opv (x : Opn) : Value := .agg #[.bool x.nul, .int .u64 x.beg.a, .int .u64 x.beg.b, .int .u64 x.beg.c, .int .u64 x.beg.d, .bool x.loop]
def opl (x : Opn) : List Value := [.bool x.nul, .int .u64 x.beg.a, .int .u64 x.beg.b, .int .u64 x.beg.c, .int .u64 x.beg.d, .bool x.loop]

/-- The value of an element. -/
def valO (nr : Nat) (mk : NS) (o : OpD) (x y : Opn) : Opn :=
  if o.kind = 0 then ⟨true, nz, false⟩ else if M.Names o then ⟨mk.has (M.tg nr o), nz.put (M.tg nr o), false⟩
  else if o.kind = 4 then ⟨x.nul && y.nul, if x.nul then x.beg.join y.beg else x.beg, x.loop || y.loop⟩
  else if o.kind = 5 then ⟨x.nul || y.nul, x.beg.join y.beg, x.loop || y.loop⟩
  else if o.kind = 6 then ⟨true, x.beg, x.nul || x.loop⟩
  else if o.kind = 7 then ⟨true, x.beg, x.loop⟩
  else ⟨false, nz, false⟩

/-- Six cells. -/
structure OpnC (w : World) (b o : Nat) (x : Opn) : Prop where
  nul : w.cell? ⟨b, o, none⟩ = some (.bool x.nul)
  wa : w.cell? ⟨b, o + 1, none⟩ = some (.int .u64 x.beg.a)
  wb : w.cell? ⟨b, o + 2, none⟩ = some (.int .u64 x.beg.b)
  wc : w.cell? ⟨b, o + 3, none⟩ = some (.int .u64 x.beg.c)
  wd : w.cell? ⟨b, o + 4, none⟩ = some (.int .u64 x.beg.d)
  loop : w.cell? ⟨b, o + 5, none⟩ = some (.bool x.loop)
theorem OpnC.later {w w' : World} {b o : Nat} {x : Opn} (h : OpnC w b o x) (k : Below w.heap.size w w') : OpnC w' b o x :=
  ⟨cell_on h.nul k, cell_on h.wa k, cell_on h.wb k, cell_on h.wc k, cell_on h.wd k, cell_on h.loop k⟩

/-- What the closure holds on to. -/
structure Caught (w : World) (gb mb : Nat) (ra la : Option Addr) (nr rc nb lc : Nat) (mk : NS) : Prop where
  g0 : w.cell? ⟨gb, 0, none⟩ = some (.slice ra nr rc)
  g1 : w.cell? ⟨gb, 1, none⟩ = some (.slice la nb lc)
  m : At w mb mk
theorem Caught.later {w w' : World} {gb mb : Nat} {ra la : Option Addr} {nr rc nb lc : Nat} {mk : NS} (h : Caught w gb mb ra la nr rc nb lc mk) (k : Below w.heap.size w w') : Caught w' gb mb ra la nr rc nb lc mk :=
  ⟨cell_on h.g0 k, cell_on h.g1 k, h.m.later k⟩

def IsOpn (v : Opn) (w : World) (e : Ending) (w' : World) : Prop := e = .returned (opv v) ∧ Below w.heap.size w w'
theorem isOpn {x v : Opn} {w w' : World} (h : x = v) (k : Below w.heap.size w w') : IsOpn v w (.returned (opv x)) w' := ⟨by rw [h], k⟩

end Go.Proofs.Ytjpcojabdjldbaa
