import Derived.Test.YthicmmhmmfhncaaGreatT01
import Derived.Laws.BitsAllLaws
import Derived.Test.YthicmmhmmfhncaaGreatT03
import Derived.Deep.RegionWith
import Derived.Deep.RegionLaw
import Derived.Test.YthicmmhmmfhncaaGreatT04
import Derived.RangeFuncCalls
set_option linter.unusedVariables false
set_option linter.unusedSimpArgs false
namespace Go.Proofs.YthicmmhmmfhncaaGreat
section
open Go.RowKit
open M (OpD uj Gr)
structure NS where
 a:Nat
 b:Nat
 c:Nat
 d:Nat
def nz:NS:=⟨0,0,0,0⟩
instance:Inhabited NS:=⟨nz⟩
def part(s t:NS)(k:Nat):NS:=⟨if 0<k then s.a ||| t.a else s.a,if 1<k then s.b ||| t.b else s.b,if 2<k then s.c ||| t.c else s.c,if 3<k then s.d ||| t.d else s.d⟩
end
section
open Go.RowKit
open M (OpD uj Gr)
structure Opn where
 nul:Bool
 beg:NS
 loop:Bool
instance:Inhabited Opn:=⟨⟨false,nz,false⟩⟩
end
section
open Go.RowKit
open M (OpD uj Gr)
theorem ug3{Q Q':Nat→Prop}{w:World}{v:Value}{sz n:Nat}{cs:List Value}(h:OwnC Q w v sz n cs)(k:∀b,Q b→Q' b):OwnC Q' w v sz n cs:=by
 rcases h with h | ⟨g,cap,e,hq,h3⟩
 ·exact .inl h
 ·exact .inr ⟨g,cap,e,k g hq,h3⟩
theorem ud3{Q:Nat→Prop}{w w':World}{v:Value}{sz n:Nat}{cs:List Value}(h:OwnC Q w v sz n cs)(hz:0<sz)(k:Below w.heap.size w w'):OwnC Q w' v sz n cs:=by
 rcases h with h | ⟨g,cap,e,hq,h3,h4,h5,h6⟩
 ·exact .inl h
 ·by_cases hc:cap=0
  ·subst hc
   have:n=0:=by omega
   subst this;exact .inr ⟨g,0,e,hq,h3,h4,fun j hj=>absurd hj (by rw[h3];omega),fun j hj=>by omega⟩
  ·have hg:g<w.heap.size:=by
    obtain⟨u,hu⟩:=Option.isSome_iff_exists.1 (h6 0 (Nat.mul_pos (by omega) hz)).1
    exact ub hu
   have e':=k.block g hg;exact .inr ⟨g,cap,e,hq,h3,h4,fun j hj=>by rw[World.cell?_of_block (a:=⟨g,j,none⟩) e'];exact h5 j hj,h6.later e'⟩
theorem unS{Q:Nat→Prop}{w:World}{g cap n sz:Nat}{cs:List Value}(h:OwnC Q w (.slice (some ⟨g,0,none⟩) n cap) sz n cs):n≤cap:=by
 rcases h with⟨q,_⟩|⟨g',cap',q,h2,h3,h4,h5,h6⟩
 ·cases q
 ·cases q;exact h4
end
end Go.Proofs.YthicmmhmmfhncaaGreat
