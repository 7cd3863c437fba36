import Derived.Test.YtimfigongapdnaaGreatT18
set_option linter.unusedVariables false
set_option linter.unusedSimpArgs false
set_option maxHeartbeats 40000000
set_option maxRecDepth 100000
namespace Go.Proofs.YtimfigongapdnaaGreat
open Go.RowKit
theorem jU Q a n c T w(f:Ints Q .u8 w a n T)(s:∀i,i<n->0<=T i/\T i<=255)(D:n<=1048576) :
  Calls Tryz.prog 104 #[.slice a n c] w (Says (M.NameB n T) w):=by
 go_enter Tryz.func104,Tryz.ntmps104;go_wp2;go_loopw [7] (λi wr=>∃k:Nat,k<=n/\i=.int .i64 k/\wr=w/\∀j,j<k->M.Letter (T j)\/M.Digit (T j)) (λi _=>n-(intOf i).toNat)
 case atStart=>exact⟨0,Nat.zero_le _,rfl,rfl,λj u=>absurd u (Nat.not_lt_zero _)⟩
 case round =>
  obtain⟨k,C,rfl,rfl,z⟩:=hrel;have o:=ua z;by_cases m:k<n
  ·rcases f with p|⟨b,off,rfl,A,f⟩
   ·omega
   have t:=f k m;obtain⟨h,l⟩:=s k m;by_cases v:M.Letter (T k)\/M.Digit (T k)
   ·have g:Hid (M.Letter (T k)\/M.Digit (T k)):=v;go_wp2_with (go_at_call 141;refine(jb (T k) _ h l).mono ?_;rintro e W ⟨⟨r,rfl,d⟩,x⟩;subst W;obtain rfl:r=true:=d.2 g;clear d);go_roundw
    case rel=>exact⟨k+1,by omega,by go_num,by trivial,λj u=>if e:j=k then e▸g.out else o j (by omega)⟩
    case measure=>simp[intOf];omega
   have g:Hid (¬(M.Letter (T k)\/M.Digit (T k))):=v;go_wp2_with (go_at_call 141;refine(jb (T k) _ h l).mono ?_;rintro e W ⟨⟨r,rfl,d⟩,x⟩;subst W;obtain rfl:r=false:=by { cases r;rfl;exact absurd (d.1 rfl) g };clear d);go_ret;exact⟨⟨false,rfl,uV λq=>g (q.1 k m)⟩,rfl⟩
  obtain rfl:k=n:=by omega
  by_cases p:k=0
  ·subst p;go_wp2;go_ret;exact⟨⟨false,rfl,uV λq=>by have:=q.2.1;omega⟩,rfl⟩
  rcases f with B|⟨b,off,rfl,A,f⟩
  ·omega
  have t:=f 0 (by omega);rw[Nat.add_zero]at t;obtain⟨h,l⟩:=s 0 (by omega);have E:(0:Int)<(k:Int):=by omega
  go_wp2_with (go_at_call 142;refine(kG (T 0) _ h l).mono ?_;rintro e W ⟨⟨r,rfl,d⟩,x⟩;subst W;have y:Hid _:=d;clear d);go_ret;exact⟨⟨_,rfl,y.trans ⟨λq=>⟨o,by omega,q⟩,λq=>q.2.2⟩⟩,rfl⟩
theorem ui3 n T(a:0<n)(b:n<=32)(c:M.Letter (T 0)):M.NameOK n T↔∀i,i<n->M.Letter (T i)\/M.Digit (T i) :=
 ⟨λq=>q.2.1,λq=>⟨b,q,a,c⟩⟩
theorem kt Q a n c T w(o:Ints Q .u8 w a n T)(x:∀i,i<n->0<=T i/\T i<=255)(J:n<=1048576) :
  Calls Tryz.prog 65 #[.slice a n c] w (Says (M.NameOK n T) w):=by
 by_cases B:n=0
 ·subst B;go_enter Tryz.func65,Tryz.ntmps65;go_wp2;go_ret;exact⟨⟨false,rfl,uV λq=>by have:=q.2.2.1;omega⟩,rfl⟩
 have O:¬(n:Int)<1:=by omega
 by_cases G:32<n
 ·have E:(32:Int)<n:=by omega
  go_enter Tryz.func65,Tryz.ntmps65;go_wp2;go_ret;exact⟨⟨false,rfl,uV λq=>by have:=q.1;omega⟩,rfl⟩
 have E:¬(32:Int)<n:=by omega
 rcases o with F|⟨b,off,rfl,N,o⟩
 ·omega
 have D:=o 0 (by omega);rw[Nat.add_zero]at D;obtain⟨A,y1⟩:=x 0 (by omega);have L:(0:Int)<(n:Int):=by omega
 rcases Classical.em (¬M.Letter (T 0)) with t|t
 ·have f:Hid (¬M.Letter (T 0)):=t;go_enter Tryz.func65,Tryz.ntmps65;go_wp2_with (go_at_call 98;refine(vk (T 0) _ A y1).mono ?_;rintro e W ⟨⟨r,rfl,d⟩,g⟩;subst W;obtain rfl:r=false:=by { cases r;rfl;exact absurd (d.1 rfl) f };clear d);go_ret;exact⟨⟨false,rfl,uV λq=>f q.2.2.2⟩,rfl⟩
 have v:=ua (Classical.not_not.1 t);go_enter Tryz.func65,Tryz.ntmps65;go_wp2_with (go_at_call 98;refine(vk (T 0) _ A y1).mono ?_;rintro e W ⟨⟨r,rfl,d⟩,g⟩;subst W;obtain rfl:r=true:=d.2 v;clear d);go_loopw [3] (λi wr=>∃k:Nat,k<=n/\i=.int .i64 k/\wr=w/\∀j,j<k->M.Letter (T j)\/M.Digit (T j)) (λi _=>n-(intOf i).toNat)
 case atStart=>exact⟨0,Nat.zero_le _,rfl,rfl,λj s=>absurd s (Nat.not_lt_zero _)⟩
 case round =>
  obtain⟨k,I,rfl,rfl,C⟩:=hrel;have p:=ua C;by_cases u:k<n
  ·have H:=o k u;obtain⟨l,m⟩:=x k u;by_cases z:M.Letter (T k)
   ·have f:Hid (M.Letter (T k)):=z;go_wp2_with (go_at_call 98;refine(vk (T k) _ l m).mono ?_;rintro e W ⟨⟨r,rfl,d⟩,g⟩;subst W;obtain rfl:r=true:=d.2 f;clear d);go_roundw
    case rel=>exact⟨k+1,by omega,by go_num,by trivial,λj s=>if e:j=k then e▸.inl f else p j (by omega)⟩
    case measure=>simp[intOf];omega
   have f:=ua z;by_cases y:M.Digit (T k)
   ·have h:Hid (M.Digit (T k)):=y;go_wp2_with (first|(go_at_call 98;refine(vk (T k) _ l m).mono ?_;rintro e W ⟨⟨r,rfl,d⟩,g⟩;subst W;obtain rfl:r=false:=by { cases r;rfl;exact absurd (d.1 rfl) f };clear d)|(go_at_call 99;refine(ja (T k) _ l m).mono ?_;rintro e W ⟨⟨r,rfl,d⟩,g⟩;subst W;obtain rfl:r=true:=d.2 h;clear d));go_roundw
    case rel=>exact⟨k+1,by omega,by go_num,by trivial,λj s=>if e:j=k then e▸.inr h else p j (by omega)⟩
    case measure=>simp[intOf];omega
   have h:Hid (¬M.Digit (T k)):=y;go_wp2_with (first|(go_at_call 98;refine(vk (T k) _ l m).mono ?_;rintro e W ⟨⟨r,rfl,d⟩,g⟩;subst W;obtain rfl:r=false:=by { cases r;rfl;exact absurd (d.1 rfl) f };clear d)|(go_at_call 99;refine(ja (T k) _ l m).mono ?_;rintro e W ⟨⟨r,rfl,d⟩,g⟩;subst W;obtain rfl:r=false:=by { cases r;rfl;exact absurd (d.1 rfl) h };clear d));go_ret;exact⟨⟨false,rfl,uV λq=>(q.2.1 k u).elim f h⟩,rfl⟩
  obtain rfl:k=n:=by omega
  go_wp2;go_ret;exact⟨⟨true,rfl,qY ((ui3 _ _ (by omega) (by omega) v).2 p)⟩,rfl⟩
open Go.RowKit Go.Maps
open M (OpD ug Gr)
theorem up1:Keyed Tryz.prog 9:=string_keyed Tryz.underlying9
theorem unW w:(zeroValue 3).run Tryz.prog w=.ok (.int .i64 0) w:=by kernel_rfl
def ubG(g:Gr):Prop :=
 (∀i,i<g.nr->M.NameB (g.rule i).nl (g.rule i).name/\∀j,j<i->¬M.SameName (g.rule i) (g.rule j)) /\
 (∀i,i<g.nb->M.NameB (g.lab i).nl (g.lab i).name/\(0<i->M.LessName (g.lab (i-1)) (g.lab i)))
def HasNames(D:DataW Unit)(R:Nat->ug)(k:Nat):Prop:=∀l:List UInt8,(Maps.has D (.string l)=true↔∃j,j<k/\u8s (R j).nl (R j).name=l)
theorem HasNames.start R:HasNames (.map []) R 0:=λl=>⟨λh=>by simp[Maps.has]at h,λ⟨j,a,_⟩=>absurd a (Nat.not_lt_zero _)⟩
theorem HasNames.step{D:DataW Unit}{R k}(h:HasNames D R k)(b:IsMap D)(d:DataW Unit):HasNames (D.put (.string (u8s (R k).nl (R k).name)) d) R (k+1):=λl=>by
 by_cases e:u8s (R k).nl (R k).name=l
 ·subst e;rw[has_put_same b (by trivial)];exact⟨λ_=>⟨k,by omega,rfl⟩,λ_=>rfl⟩
 rw[has_put_other (by intro q;injection q with q;exact e q.symm),h l];constructor
 ·rintro⟨j,c,q⟩;exact⟨j,by omega,q⟩
 rintro⟨j,c,q⟩;refine⟨j,?_,q⟩;by_cases a:j=k
 ·subst a;exact absurd q e
 omega
theorem udU a b(c:Byt a.nl a.name)(d:Byt b.nl b.name):u8s a.nl a.name=u8s b.nl b.name↔M.SameName a b:=ujm _ _ _ _ c d
structure usX(w:World)(y:Nat)(ra la:Option Addr)(nr rc nb lc:Nat)(R:Nat->ug)(k:Nat)(x:World):Prop where
 box0:x.cell? ⟨y,0,none⟩=some (.slice ra nr rc)
 box1:x.cell? ⟨y,1,none⟩=some (.slice la nb lc)
 map:∃D:DataW Unit,x.ownsMap Tryz.prog 9 (plainElem Tryz.prog 3) (y+1) k D/\HasNames D R k
 bel:Below w.heap.size w x
 size:y+2<=x.heap.size
def urZ(w:World)(b la:Option Addr)(nr c a lc:Nat)(R:Nat->ug)(i:Value)(wr:World):Prop :=
 ∃k:Nat,k<=nr/\i=.int .i64 (k:Int)/\usX w w.heap.size b la nr c a lc R k wr/\∀j,j<k->M.NameB (R j).nl (R j).name/\∀i,i<j->¬M.SameName (R j) (R i)
theorem ku Q P la Y lc g w(hG:GramA Q w P la g)(hs:vF g) :
  Calls Tryz.prog 70 #[.agg #[.slice P g.nr Y,.slice la g.nb lc]] w (xK (ubG g) w):=by
 obtain⟨nr,R,u,L⟩:=g;obtain⟨C,x⟩:=hG;obtain⟨h1,h2,s1,s2⟩:=hs;simp only at C x h1 h2 s1 s2 ⊢;have HR:=ua C;have HL:=ua x;have U:=ua s1;have S2:=ua s2;have a5:=@run_makeMap Tryz.prog;go_enter Tryz.func70,Tryz.ntmps70;go_wp2;go_loopw [14] (λi wr=>urZ w P la nr Y u lc R i wr) (λi _=>nr-(intOf i).toNat)
 case atStart =>
  have ha:=xm w (.slice P nr Y) (.slice la u lc) 28;refine⟨0,Nat.zero_le _,rfl,⟨uA _ ha.1,uA _ ha.2,⟨.map [],?_,HasNames.start R⟩,uP w _ _,by simp⟩,λj A=>absurd A (Nat.not_lt_zero _)⟩;have:=World.ownsMap_made (H:=Unit) (w.alloc (Obj.cells #[Value.slice P nr Y,Value.slice la u lc] 28)) Tryz.prog 9 (plainElem Tryz.prog 3);rwa [World.size_alloc]at this
 case round =>
  obtain⟨k,hk,rfl,y,ac⟩:=hrel;have HA:=ua ac;have g0:=y.box0;have g1:=y.box1;have a6:=y.size;have l0:w.heap.size<wr.heap.size:=by omega
  have l1:w.heap.size+1<wr.heap.size:=by omega
  by_cases l:k<nr
  ·have C:=HR.later y.bel;rcases C with h0|⟨b,off,rfl,hq,C⟩
   ·omega
   obtain⟨⟨a,t,V,X⟩,⟨ba,bc,c1,hb⟩⟩:=C k l;have av:=ud V;obtain⟨D,a0,ax⟩:=y.map;have aa:=ua ax;have z:=ua y.bel;have N:=(U k l).name;have v:=ua ((U k l).byt);have ap:=ua X;have aw:∀o,(convert 22 9 (.slice a (R k).nl t)).run Tryz.prog (wr.alloc o)=.ok (.string (str (R k).nl (R k).name)) (wr.alloc o):=λo=>vo Q a (R k).nl t (R k).name _ (X.later (ui wr o))
   have aj:(str (R k).nl (R k).name).size<=maxLen:=(by rw[uef];unfold maxLen;omega);have ab:Hid ((str (R k).nl (R k).name).data.toList=u8s (R k).nl (R k).name):=jB _ _;generalize str (R k).nl (R k).name=s at aw aj ab;have ay:=Go.WideMaps.keyOf_string_mk Tryz.underlying9 aj;have G:=ua a0;have T:=ua ay;have ag:Hid (∀j,j<k->(u8s (R j).nl (R j).name=s.data.toList↔M.SameName (R k) (R j))):=λj A=>by
    rw[ab.out];exact⟨λq=>(udU _ _ v (U j (by omega)).byt).1 q.symm,λq=>((udU _ _ v (U j (by omega)).byt).2 q).symm⟩
   have hI:∀o,Ints Q .u8 (wr.alloc o) a (R k).nl (R k).name:=λo=>ap.later (ui wr o)
   have B:=ua hI;cases hh:Maps.has D (.string s.data.toList) with
   |true =>
    have Z:=ua hh;go_wp2_with (at_lookup;refine wpList_lookup_own_ok_int _ rfl _ _ 169 rfl 9 3 .i64 up1 Tryz.underlying169 Tryz.underlying3 (unW _) (w.heap.size+1) k D rfl (G.alloc _) _ _ rfl T ?_;intro c J O;clear J O);go_ret;refine⟨⟨false,rfl,uV λq=>?_⟩,uf z (ui wr _)⟩;obtain⟨j,A,e⟩:=(aa _).1 Z;exact(q.1 k l).2 j A ((ag j A).1 e)
   |false =>
    have Z:=ua hh;by_cases F:M.NameB (R k).nl (R k).name
    ·have f:Hid (M.NameB (R k).nl (R k).name):=F;go_wp2_with (first|(at_lookup;refine wpList_lookup_own_ok_int _ rfl _ _ 169 rfl 9 3 .i64 up1 Tryz.underlying169 Tryz.underlying3 (unW _) (w.heap.size+1) k D rfl (G.alloc _) _ _ rfl T ?_;intro c J O;clear J O)|(go_at_call 104;refine(jU Q a (R k).nl t (R k).name _ (B _) v N).mono ?_;rintro e W ⟨⟨r,rfl,n⟩,hw⟩;subst W;obtain rfl:r=true:=n.2 f;clear n)|(at_mapUpdate;refine wpList_mapUpdate_own _ rfl _ _ _ 169 rfl 9 3 up1 Tryz.underlying169 _ (w.heap.size+1) k D rfl (G.alloc _) (by unfold maxLen;omega) _ _ _ rfl rfl T _ [] (plainElem_int Tryz.underlying3 (WalkArith.wf_i64 (by omega))) ?_;intro w1 al ai;have aq:Hid _:=al;have S:Hid _:=ai;clear al ai));have bb:=(uf z (ui wr _)).grown S (by simp;omega) (λr e=>by cases e;omega);have ss:=S.size;simp only[World.size_alloc]at ss;refine⟨⟨k+1,by omega,by go_num,⟨(World.cell?_of_block (S.block w.heap.size (by simp;omega) (by simp))).trans (uA _ g0),(World.cell?_of_block (S.block w.heap.size (by simp;omega) (by simp))).trans (uA _ g1),⟨_,aq,?_⟩,bb,by omega⟩,?_⟩,by simp[intOf];omega⟩
     ·rw[ab.out];exact aa.step G.isMap _
     refine vC HA ⟨f,λi hi q=>?_⟩;have:=(aa _).2 ⟨i,hi,(ag i hi).2 q⟩;rw[Z.out]at this;cases this
    have f:Hid (¬M.NameB (R k).nl (R k).name):=F;go_wp2_with (first|(at_lookup;refine wpList_lookup_own_ok_int _ rfl _ _ 169 rfl 9 3 .i64 up1 Tryz.underlying169 Tryz.underlying3 (unW _) (w.heap.size+1) k D rfl (G.alloc _) _ _ rfl T ?_;intro c J O;clear J O)|(go_at_call 104;refine(jU Q a (R k).nl t (R k).name _ (B _) v N).mono ?_;rintro e W ⟨⟨r,rfl,n⟩,hw⟩;subst W;obtain rfl:r=false:=by { cases r;rfl;exact absurd (n.1 rfl) f };clear n));go_ret;exact⟨⟨false,rfl,uV λq=>f (q.1 k l).1⟩,uf z (ui wr _)⟩
  obtain rfl:k=nr:=by omega
  obtain⟨W1,eW⟩:=nm wr;subst wr;have ao:=ua y.bel;have HL':=ua (HL.later y.bel);go_wp2;go_loopw [43] (λi a1=>ufn W1 u (λj=>M.NameB (L j).nl (L j).name/\(0<j->M.LessName (L (j-1)) (L j))) i a1) (λi _=>u-(intOf i).toNat)
  case atStart=>exact⟨0,Nat.zero_le _,rfl,Below.refl _ _,λj A=>absurd A (Nat.not_lt_zero _)⟩
  case round =>
   obtain⟨m,hm,rfl,E,ac⟩:=hrel;have HM:=ua ac;have ae:=ua E;have z:=ua (uf ao E);have e0:=ue g0 E;have e1:=ue g1 E;have a4:=Nat.lt_of_lt_of_le l0 E.size;by_cases l:m<u
   ·have x:=HL'.later E;rcases x with h0|⟨b,off,rfl,hq,x⟩
    ·omega
    obtain⟨⟨a,t,V,X⟩,c1,⟨ba,bc,c2,hb⟩⟩:=x m l;have av:=ud V;have N:=(S2 m l).name;have v:=ua ((S2 m l).byt);have hI:∀o d,Ints Q .u8 ((wr.alloc o).drewN d) a (L m).nl (L m).name:=λo d=>X.later (below_drewN (ui wr o) d)
    have B:=ua hI;by_cases F:M.NameB (L m).nl (L m).name
    ·have f:Hid (M.NameB (L m).nl (L m).name):=F;have QN:∀o d,Calls Tryz.prog 104 #[.slice a (L m).nl t] ((wr.alloc o).drewN d) λe w'=>e=.returned (.bool true)/\w'=(wr.alloc o).drewN d:=λo d =>
      (jU Q a (L m).nl t (L m).name _ (B o d) v N).mono (λe W h=>by obtain⟨⟨r,rfl,n⟩,rfl⟩:=h;rw[n.2 F];exact⟨rfl,rfl⟩)
     have I:=ua QN;by_cases hz:m=0
     ·subst hz;simp only[Nat.zero_mul,Nat.add_zero]at V c1 c2;go_wp2_with fail;go_quiet (first|(go_at_call 104;exact Calls.quiet_of_same (I _ _)));go_wp2;go_roundw
      case rel=>exact⟨1,by omega,by go_num,uf ae (below_drewN (ui wr _) _),vC HM ⟨f,λq=>absurd q (Nat.lt_irrefl _)⟩⟩
      case measure=>simp[intOf];omega
     obtain⟨p,hp⟩:∃p,m=p+1:=⟨m-1,by omega⟩;have HP:=ua hp;have em:(m:Int)-1=(p:Int):=(by omega);have az:0<m:=(by omega);have hmp':(0:Int)<(m:Int):=(by omega);have am:p<u:=(by omega);have hpl':(p:Int)<(u:Int):=(by omega);clear hz hp;obtain⟨⟨ad,an,d0,ak⟩,d1,⟨a2,a3,d2,au⟩⟩:=x p am;have hI':∀o d,Ints Q .u8 ((wr.alloc o).drewN d) ad (L p).nl (L p).name:=λo d=>ak.later (below_drewN (ui wr o) d)
     obtain⟨r,r1,r2,r3,ah⟩:=uh1 (L p).nl (L m).nl (L p).name (L m).name (S2 p am).byt v;have HC:Hid (∀o d,Calls Tryz.prog 105 #[.slice ad (L p).nl an,.slice a (L m).nl t] ((wr.alloc o).drewN d) λe w'=>e=.returned (.int .i64 r)/\w'=(wr.alloc o).drewN d):=λo d=>ah Q ad a an t _ (hI' o d) (B o d)
     have af:Hid (r<0↔M.LessName (L (m-1)) (L m)):=by
      show r<0↔M.LessName (L (m-1)) (L m);rw[show m-1=p by have:=HP.out;omega];exact r3
     clear x ak au hI' ah r3;by_cases n:r<0
     ·have hr':¬(0:Int)<=r:=(by omega);go_wp2_with fail;go_quiet (first|(go_at_call 104;exact Calls.quiet_of_same (I _ _))|(go_at_call 105;exact Calls.quiet_of_same (HC _ _)));go_wp2;go_roundw
      case rel=>exact⟨m+1,by omega,by go_num,uf ae (below_drewN (ui wr _) _),vC HM ⟨f,λ_=>af.1 n⟩⟩
      case measure=>simp[intOf];omega
     have hr':(0:Int)<=r:=(by omega);go_wp2_with fail;go_quiet (first|(go_at_call 104;exact Calls.quiet_of_same (I _ _))|(go_at_call 105;exact Calls.quiet_of_same (HC _ _)));go_wp2;go_ret;exact⟨⟨false,rfl,uV λq=>by have:=af.2 ((q.2 m l).2 az);omega⟩,uf z (below_drewN (ui wr _) _)⟩
    have f:Hid (¬M.NameB (L m).nl (L m).name):=F;have QN:∀o d,Calls Tryz.prog 104 #[.slice a (L m).nl t] ((wr.alloc o).drewN d) λe w'=>e=.returned (.bool false)/\w'=(wr.alloc o).drewN d:=λo d =>
     (jU Q a (L m).nl t (L m).name _ (B o d) v N).mono (λe W h=>by
      obtain⟨⟨r,rfl,n⟩,rfl⟩:=h;obtain rfl:r=false:=(by { cases r;rfl;exact absurd (n.1 rfl) f });exact⟨rfl,rfl⟩)
    have I:=ua QN;go_wp2_with fail;go_quiet (first|(go_at_call 104;exact Calls.quiet_of_same (I _ _)));go_wp2;go_ret;exact⟨⟨false,rfl,uV λq=>f (q.2 m l).1⟩,uf z (below_drewN (ui wr _) _)⟩
   obtain rfl:m=u:=(by omega);go_wp2;go_ret;exact⟨⟨true,rfl,qY ⟨HA,HM⟩⟩,z⟩
theorem uei g:∀m,xH g (g.nr+m)=M.sum (fun i=>(g.rule i).bl) g.nr+M.sum (fun i=>(g.lab i).bl) m
  |0=>by
    have:∀n,n<=g.nr->xH g n=M.sum (fun i=>(g.rule i).bl) n:=by
      intro n b;induction n with
      |zero=>rfl
      |succ n a=>rw[uas,a (by omega),M.sum,vT g (by omega)]
    rw[Nat.add_zero,this _ (Nat.le_refl _)];rfl
  |m+1=>by
    have:=uei g m;rw[<-Nat.add_assoc,uas,this,yR,M.sum,Nat.add_assoc]
theorem uej g:xH g (g.nr+g.nb)=M.ops g:=uei g g.nb
theorem uoG{g}{P:ug->Prop}:(∀p,p<g.nr+g.nb->P (nd g p))↔(∀i,i<g.nr->P (g.rule i))/\∀i,i<g.nb->P (g.lab i):=by
  constructor
  · intro h
    exact⟨fun i a=>vT g a▸h i (by omega),fun i a=>yR g i▸h (g.nr+i) (by omega)⟩
  · rintro⟨b,c⟩ p d
    unfold nd;split
    · exact b p (by omega)
    · exact c _ (by omega)
theorem uh2 g:¬ui4 g↔g.nr<=100/\g.nb<=100/\M.ops g<=2000/\(∀i,i<g.nr->(g.rule i).nl<=32)/\∀i,i<g.nb->(g.lab i).nl<=32:=by
  have j:=uoG (g:=g) (P:=fun d=>d.nl<=32)
  unfold ui4;constructor
  · intro h
    have c:=Nat.le_of_not_lt fun q=>h (.inl q)
    have f:g.nb<=100:=Nat.le_of_not_lt fun q=>h (.inr (.inl q))
    have b:∀p,p<g.nr+g.nb->¬(2000<xH g (p+1)\/32<(nd g p).nl):=fun p a q=>h (.inr (.inr ⟨p,a,q⟩))
    refine⟨c,f,?_,j.1 fun p a=>Nat.le_of_not_lt fun q=>b p a (.inr q)⟩
    rw[<-uej];by_cases e:g.nr+g.nb=0
    · rw[e];exact Nat.zero_le _
    · have:=b (g.nr+g.nb-1) (by omega)
      rw[show g.nr+g.nb-1+1=g.nr+g.nb by omega]at this
      omega
  · rintro⟨c,f,b,k⟩ (q | q | ⟨p,a,q | q⟩)
    · omega
    · omega
    · have:=M.sum_le (fun i=>(nd g i).bl) (show p+1<=g.nr+g.nb by omega)
      have e:M.sum (fun i=>(nd g i).bl) (g.nr+g.nb)=M.ops g:=uej g
      have l:M.sum (fun i=>(nd g i).bl) (p+1)=xH g (p+1):=rfl
      omega
    · have:=j.2 k p a
      omega
theorem ufm g i:yB g (g.nr+g.nb) i↔(∃j,j<g.nr/\M.Throws (g.rule j).bl (g.rule j).body i)\/∃j,j<g.nb/\M.Throws (g.lab j).bl (g.lab j).body i:=by
  constructor
  · rintro⟨q,b,h⟩
    by_cases e:q<g.nr
    · rw[vT g e]at h
      exact .inl ⟨q,e,h⟩
    · obtain⟨m,rfl⟩:∃m,q=g.nr+m:=⟨q-g.nr,by omega⟩
      rw[yR]at h;exact .inr ⟨m,by omega,h⟩
  · rintro (⟨j,a,h⟩|⟨j,a,h⟩)
    · exact⟨j,by omega,by rw[vT g a];exact h⟩
    · exact⟨g.nr+j,by omega,by rw[yR];exact h⟩
theorem jC g:M.Valid g↔0<g.nr/\¬ui4 g/\ubG g/\jg g/\unO g:=by
  rw[uh2];constructor
  · intro h
    refine⟨h.r1,⟨h.r2,h.l2,h.ol,fun i a=>(h.rn i a).1,fun i a=>(h.ln i a).1⟩,⟨fun i a=>⟨(h.rn i a).2,h.ru i a⟩,fun i a=>⟨(h.ln i a).2,h.la i a⟩⟩,
      ⟨h.rb,fun i a=>⟨h.lb i a,h.lz i a⟩⟩,fun i a b=>(ufm g i).2 (h.lt i a b)⟩
  · rintro⟨f,⟨k,l,m,n,o⟩,⟨d,e⟩,⟨p,c⟩,j⟩
    exact { r1:=f,r2:=k,l2:=l,rn:=fun i a=>⟨n i a,(d i a).1⟩,ru:=fun i a=>(d i a).2,ln:=fun i a=>⟨o i a,(e i a).1⟩,la:=fun i a=>(e i a).2,
            rb:=p,lb:=fun i a=>(c i a).1,lz:=fun i a=>(c i a).2,lt:=fun i a b=>(ufm g i).1 (j i a b),ol:=m }
theorem uqz g(h:jg g):ui1 g:=by
  have k:∀p,p<g.nr+g.nb->∀i,i<(nd g p).bl->M.ElemOK g.nr g.nb ((nd g p).body i):=by
    refine uoG (P:=fun d=>∀i,i<d.bl->M.ElemOK g.nr g.nb (d.body i)) |>.2 ⟨fun i a=>(h.1 i a).1,fun i a=>?_⟩
    cases e:(g.lab i).has with
    |true=>exact ((h.2 i a).1 e).1
    |false=>intro j m;have:=(h.2 i a).2 e;omega
  intro p f i a b;have c:=k p f i a;generalize (nd g p).body i=d at c b ⊢;obtain⟨kd,n,S,l⟩:=d;simp only at b;subst b;have:=(ueS _ _ _ _ _).1 c;exact⟨this.1,this.2.1⟩
theorem Flat.later{w W d la g rb e lb lo}{b ba:Nat->Option Addr}{c bc}(h:Flat w d la g rb e lb lo b ba c bc)(k:Below w.heap.size w W):Flat W d la g rb e lb lo b ba c bc :=
  ⟨h.ra,h.la,fun i a=>ue (h.r0 i a) k,fun i a=>ue (h.r1 i a) k,fun i a=>ue (h.l0 i a) k,fun i a=>ue (h.l1 i a) k,fun i a=>ue (h.l2 i a) k⟩
theorem RulesA.at'{Q w a n R}(h:RulesA Q w a n R):∃b off,(0<n->a=some ⟨b,off,none⟩)/\∀i,i<n->RuleC Q w b (off+i*2) (R i):=by
  rcases h with h | ⟨b,off,e,_,h⟩
  · exact⟨0,0,fun q=>by omega,fun i c=>by omega⟩
  · exact⟨b,off,fun _=>e,h⟩
theorem LabsA.at'{Q w a n R}(h:LabsA Q w a n R):∃b off,(0<n->a=some ⟨b,off,none⟩)/\∀i,i<n->LabC Q w b (off+i*3) (R i):=by
  rcases h with h | ⟨b,off,e,_,h⟩
  · exact⟨0,0,fun q=>by omega,fun i c=>by omega⟩
  · exact⟨b,off,fun _=>e,h⟩
theorem ugu{Q w v la g}(h:GramA Q w v la g):∃rb j lb lo D ba E bc,Flat w v la g rb j lb lo D ba E bc/\∀p,p<g.nr+g.nb->OpsA Q w (ba p) (nd g p).bl (nd g p).body:=by
  obtain⟨rb,j,z,B⟩:=h.rules.at';obtain⟨lb,lo,y,t⟩:=h.labs.at';obtain⟨f,d⟩:=Deep.choose_lt (α:=(Option Addr×Nat)×(Option Addr×Nat)) (n:=g.nr+g.nb) (p:=fun p x =>
      (p<g.nr->w.cell? ⟨rb,j+p*2,none⟩=some (.slice x.1.1 (nd g p).nl x.1.2)/\w.cell? ⟨rb,j+p*2+1,none⟩=some (.slice x.2.1 (nd g p).bl x.2.2)) /\
      (∀m,p=g.nr+m->w.cell? ⟨lb,lo+m*3,none⟩=some (.slice x.1.1 (nd g p).nl x.1.2)/\w.cell? ⟨lb,lo+m*3+2,none⟩=some (.slice x.2.1 (nd g p).bl x.2.2)) /\
      OpsA Q w x.2.1 (nd g p).bl (nd g p).body) (fun p u=>by
    by_cases e:p<g.nr
    · obtain⟨⟨a,c,o,_⟩,⟨k,l,r,s⟩⟩:=B p e
      rw[vT g e];exact⟨⟨(a,c),(k,l)⟩,fun _=>⟨o,r⟩,fun m A=>by omega,s⟩
    · obtain⟨m,rfl⟩:∃m,p=g.nr+m:=⟨p-g.nr,by omega⟩
      obtain⟨⟨a,c,o,_⟩,_,⟨k,l,r,s⟩⟩:=t m (by omega)
      rw[yR];refine⟨⟨(a,c),(k,l)⟩,fun q=>by omega,fun C A=>?_,s⟩
      obtain rfl:m=C:=by omega
      exact⟨o,r⟩)
  refine⟨rb,j,lb,lo,fun p=>(f p).1.1,fun p=>(f p).2.1,fun p=>(f p).1.2,fun p=>(f p).2.2,⟨z,y,fun i b=>((d i (by omega)).1 b).1,fun i b=>((d i (by omega)).1 b).2,
    fun i b=>((d (g.nr+i) (by omega)).2.1 i rfl).1,fun i b=>(t i b).has,fun i b=>((d (g.nr+i) (by omega)).2.1 i rfl).2⟩,fun p u=>(d p u).2.2⟩
theorem yV Q a la b lc g w(d:GramA Q w a la g)(f:vF g) :
    Calls Tryz.prog 69 #[.agg #[.slice a g.nr b,.slice la g.nb lc]] w (xK (ui4 g) w):=by
  obtain⟨rb,j,lb,lo,h,ba,i,bc,c,_⟩:=ugu d;exact callsIn_wide.1 (uew a la b lc g rb j lb lo h ba i bc w f (fun W e=>c.later e))
theorem ucS Q a la b lc g w(e:GramA Q w a la g)(i:vF g)(c:ui1 g)(j:xH g (g.nr+g.nb)<=2000) :
    Calls Tryz.prog 72 #[.agg #[.slice a g.nr b,.slice la g.nb lc]] w (xK (unO g) w):=by
  obtain⟨rb,m,lb,lo,k,ba,l,bc,d,f⟩:=ugu e;exact callsIn_wide.1 (udS Q a la b lc g rb m lb lo k ba l bc w i (fun W h=>d.later h) f c j)
theorem jD Q c la d lc g w(F:GramA Q w c la g)(s:vF g) :
    Calls Tryz.prog 30 #[.agg #[.slice c g.nr d,.slice la g.nb lc]] w (xK (M.Valid g) w):=by
  have h:=ua F;have J:=s.nr;have L:=s.nb;have i:=ua s;have E:∀W,Below (w.alloc (.cells #[.slice c g.nr d,.slice la g.nb lc] 28)).heap.size (w.alloc (.cells #[.slice c g.nr d,.slice la g.nb lc] 28)) W->W.cell? ⟨w.heap.size,0,none⟩=some (.slice c g.nr d)/\W.cell? ⟨w.heap.size,1,none⟩=some (.slice la g.nb lc):=fun W x =>
    ⟨ue (xm w _ _ 28).1 x,ue (xm w _ _ 28).2 x⟩
  have l:=ua E;by_cases I:g.nr=0
  · have G:¬(0:Int)<(g.nr:Int):=by omega
    go_enter Tryz.func30,Tryz.ntmps30;go_wp2;go_ret;exact⟨⟨false,rfl,uV fun q=>by have:=q.r1;omega⟩,ui w _⟩
  have G:(0:Int)<(g.nr:Int):=by omega
  by_cases u:ui4 g
  · have j:Hid (ui4 g):=u
    go_enter Tryz.func30,Tryz.ntmps30;go_wp2_with (go_at_call 69;refine (yV Q c la d lc g _ (h.later (ui w _)) i).mono ?_;rintro e W ⟨⟨r,rfl,b⟩,a⟩;obtain rfl:r=true:=b.2 j;have f:Hid _:=a;clear b a);go_ret;exact⟨⟨false,rfl,uV fun q=>((jC g).1 q).2.1 j⟩,uf (ui w _) f⟩
  have j:=ua u;by_cases v:ubG g
  · have m:Hid (ubG g):=v
    by_cases p:jg g
    · have n:Hid (jg g):=p
      have A:=ua (uqz g p);have B:Hid (xH g (g.nr+g.nb)<=2000):=by show _<=_;rw[uej];exact ((uh2 g).1 j).2.2.1
      go_enter Tryz.func30,Tryz.ntmps30;go_wp2_with (first|(go_at_call 69;refine (yV Q c la d lc g _ (h.later (ui w _)) i).mono ?_;rintro e W ⟨⟨r,rfl,b⟩,a⟩;obtain rfl:r=false:=by { cases r;rfl;exact absurd (b.1 rfl) j };obtain⟨y,z⟩:=l W a;have f:Hid _:=a;clear b a)|(go_at_call 70;refine (ku Q c la d lc g _ (h.later (uf (ui w _) f)) i).mono ?_;rintro e W2 ⟨⟨r,rfl,b⟩,a⟩;obtain rfl:r=true:=b.2 m;obtain⟨H,y1⟩:=l W2 (uf f a);have k:Hid _:=uf f a;clear b a)|(go_at_call 71;refine (qe Q c la d lc g _ (h.later (uf (ui w _) k)) i).mono ?_;rintro e t ⟨⟨r,rfl,b⟩,a⟩;obtain rfl:r=true:=b.2 n;obtain⟨N,O⟩:=l t (uf k a);have o:Hid _:=uf k a;clear b a)|(go_at_call 72;refine (ucS Q c la d lc g _ (h.later (uf (ui w _) o)) i A B).mono ?_;rintro e W4 ⟨⟨r,rfl,b⟩,a⟩;have C:Hid _:=b;have D:Hid _:=uf o a;clear b a))
      go_ret;exact⟨⟨_,rfl,C.trans ⟨fun q=>(jC g).2 ⟨by omega,j,m,n,q⟩,fun q=>((jC g).1 q).2.2.2.2⟩⟩,uf (ui w _) D⟩
    · have n:Hid (¬jg g):=p
      go_enter Tryz.func30,Tryz.ntmps30;go_wp2_with (first|(go_at_call 69;refine (yV Q c la d lc g _ (h.later (ui w _)) i).mono ?_;rintro e W ⟨⟨r,rfl,b⟩,a⟩;obtain rfl:r=false:=by { cases r;rfl;exact absurd (b.1 rfl) j };obtain⟨y,z⟩:=l W a;have f:Hid _:=a;clear b a)|(go_at_call 70;refine (ku Q c la d lc g _ (h.later (uf (ui w _) f)) i).mono ?_;rintro e W2 ⟨⟨r,rfl,b⟩,a⟩;obtain rfl:r=true:=b.2 m;obtain⟨H,y1⟩:=l W2 (uf f a);have k:Hid _:=uf f a;clear b a)|(go_at_call 71;refine (qe Q c la d lc g _ (h.later (uf (ui w _) k)) i).mono ?_;rintro e t ⟨⟨r,rfl,b⟩,a⟩;obtain rfl:r=false:=by { cases r;rfl;exact absurd (b.1 rfl) n };have o:Hid _:=uf k a;clear b a))
      go_ret;exact⟨⟨false,rfl,uV fun q=>n ((jC g).1 q).2.2.2.1⟩,uf (ui w _) o⟩
  · have m:Hid (¬ubG g):=v
    go_enter Tryz.func30,Tryz.ntmps30;go_wp2_with (first|(go_at_call 69;refine (yV Q c la d lc g _ (h.later (ui w _)) i).mono ?_;rintro e W ⟨⟨r,rfl,b⟩,a⟩;obtain rfl:r=false:=by { cases r;rfl;exact absurd (b.1 rfl) j };obtain⟨y,z⟩:=l W a;have f:Hid _:=a;clear b a)|(go_at_call 70;refine (ku Q c la d lc g _ (h.later (uf (ui w _) f)) i).mono ?_;rintro e W2 ⟨⟨r,rfl,b⟩,a⟩;obtain rfl:r=false:=by { cases r;rfl;exact absurd (b.1 rfl) m };have k:Hid _:=uf f a;clear b a))
    go_ret;exact⟨⟨false,rfl,uV fun q=>m ((jC g).1 q).2.2.1⟩,uf (ui w _) k⟩
end Go.Proofs.YtimfigongapdnaaGreat
