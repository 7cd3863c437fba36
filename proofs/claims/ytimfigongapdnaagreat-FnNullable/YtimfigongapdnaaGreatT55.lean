import Derived.Test.YtimfigongapdnaaGreatRows
import Derived.Test.YtimfigongapdnaaGreatT54
set_option linter.unusedVariables false
set_option linter.unusedSimpArgs false
set_option maxHeartbeats 40000000
set_option maxRecDepth 100000
namespace Go.Proofs.YtimfigongapdnaaGreat
namespace fnNullable
open Go.ChangeShapes Go.WideShapes Go.ChangeAt Go.RowKit Go.Deep
theorem own:ownKnob Tryz.prog.godebug=none:=by kernel_rfl
theorem upU:laidOutB Tryz.prog=true:=by kernel_rfl
theorem upV:Tryz.prog.cellsOf 5=1:=by kernel_rfl
theorem urU b off i:(⟨b,off,none⟩:Addr).add i=⟨b,off+i,none⟩:=by
 by_cases a:i=0
 ·subst a;simp[Addr.add]
 simp[Addr.add,a]
theorem uls{H}{enc:TypeId×Value->H}{w k u o fuel cs}{x:DataW H×List MemPlace}(h:DataW.trod enc Tryz.prog w k u o fuel 22 cs=some x) :
  ∃a n c S,cs = [.slice a n c]/\Ints (λ_=>True) .u8 w a n S/\n<=9223372036854775807/\Byt n S/\n<=c/\(a=none->n=0/\c=0):=by
 rcases open_ints Tryz.underlying22 Tryz.underlying5 upV h with⟨rfl,_⟩|⟨a,f,cap,d,rfl,_,y,p,t,_,g,s⟩
 ·exact⟨none,0,0,λ_=>0,rfl,.inl rfl,by omega,(λi j=>by omega),Nat.le_refl _,λ_=>⟨rfl,rfl⟩⟩
 have z:f<=d.length:=by rw[t];split<;>omega
 have q:f<=9223372036854775807:=by have:=p;unfold maxLen at this;omega
 refine⟨some a,f,cap,λi=>d.getD i 0,rfl,?_,q,(λi j=>?_),by omega,λe=>by cases e⟩
 ·by_cases l:f=0
  ·exact .inl l
  obtain⟨b,off,v⟩:=a;have m:=g 0 (by omega);have r:v=none:=by simpa[Addr.add] using World.cell?_spot m
  subst r;refine .inr ⟨b,off,rfl,trivial,λi j=>?_⟩;have:=g i (by omega);rwa [urU]at this
 have hi':i<d.length:=by omega
 have:d.getD i 0∈d:=by
  rw[List.getD_eq_getElem?_getD,List.getElem?_eq_getElem hi'];exact List.getElem_mem hi'
 exact bounds_u8 (s _ this)
theorem urV z(L:z.Started)H(enc:TypeId×Value->H) :
  ReturnsInHanded {} Tryz.checked z 3 .any (Rows.fnNullableSpec.pre6 enc Tryz.prog Tryz.f3 Rows.fnNullableRow.domain false) (Rows.fnNullableSpec.post enc Tryz.prog Tryz.f3 false true false false):=by
 refine returnsInHanded_of_change (C:=Tryz.checked) own L (by kernel_rfl) Tryz.func3
  (ChangeSpec.witness6 (enc:=enc) (C:=Tryz.checked) false ⟨#[],#[.slice none 0 0],[]⟩ 8 (by kernel_rfl) (by kernel_rfl) (by kernel_rfl) (by kernel_rfl)) ?_
 intro W O args R U P w u X _;have v:=w;have hW':=u;obtain⟨p,q,t,B,rfl,Y,Z⟩:=u;have s:=t;rw[Tryz.params3]at s v;obtain⟨A,aa,Q,T,I,q0,V,rfl,rfl,r,J⟩:=trodAll_cons s;obtain⟨rfl,rfl,rfl⟩:=trodAll_nil J;obtain rfl:args=#[A]:=by cases args;simp_all
 obtain⟨rfl,rfl⟩:=trodVars_none B;obtain⟨d,b,f,rfl⟩:=okWide_slice Tryz.underlying22 (v 0 22 A rfl rfl);have y:=r;have G:∀x∈I,x.block<W.heap.size:=by obtain⟨m,F⟩:=y;exact DataW.trod_lt m _ _ _ F
 obtain⟨S,i,k,g,j,l⟩:∃S:Nat->Int,Ints (λ_=>True) .u8 W d b S/\b<=9223372036854775807/\Byt b S/\b<=f/\(d=none->b=0/\f=0):=by
  obtain⟨fuel,E⟩:=r;obtain⟨a,n,c,S,e,i,k,g,j,l⟩:=uls E;simp[Value.cells]at e;obtain⟨rfl,rfl,rfl⟩:=e;exact⟨S,i,k,g,j,l⟩
 clear t w;refine(urT (λ_=>True) d b f S W i g j l k).mono λe N ⟨D,o⟩=>?_
 subst D;exact⟨_,rfl,_,_,_,[],_,[],hW',trodAll_mk1 (shut_bool Tryz.underlying4 _),(trodAll_cons_mk (Below.trod upU (by kernel_rfl) (of_decide_eq_true (by kernel_rfl)) y o G) trodAll_mk0),rfl,o.frame _,λh=>by cases h⟩
theorem over:Rows.fnNullableRow.holds Tryz.pinned (OpenSpec.ofChange Rows.fnNullableSpec) :=
 OpenClaim.holds_of_wide 3 Tryz.f3 rfl rfl rfl rfl rfl rfl rfl ⟨rfl,rfl,rfl,rfl,rfl⟩ rfl rfl rfl rfl rfl (by kernel_rfl) Tryz.func3 (by kernel_rfl)
  (of_decide_eq_true (by kernel_rfl)) (by unfold Func.isWrapper;first|(rw[if_pos (by decide +kernel)];kernel_rfl)|(rw[if_neg (by decide +kernel)];exact⟨rfl,rfl⟩))
  (λa b H enc _=>urV a b H enc)
end fnNullable
section
theorem fnNullable_holds:Rows.FnNullableSaid:=fnNullable.over
end
end Go.Proofs.YtimfigongapdnaaGreat
