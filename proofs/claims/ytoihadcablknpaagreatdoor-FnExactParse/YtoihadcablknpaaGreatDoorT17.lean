import Derived.Test.YtoihadcablknpaaGreatDoorT01
import Derived.Shelf.Small.Strs
import Derived.Shelf.SlMaps.Clone
import Derived.Shelf.SlIter.Nil
import Derived.Shelf.SortM.Plain
import Derived.Shelf.SortM.SortNone
import Derived.Test.YtoihadcablknpaaGreatDoorProg
import Derived.Test.YtoihadcablknpaaGreatDoorChecked
import Derived.Deep.DeepCutAuto
import Derived.Shelf.Strconv.AppendIntPublic10
import Derived.Shelf.Bits.Mul64
import Derived.Shelf.Bytes.SlJoin
import Derived.Laws.CopyOwn
set_option linter.unusedVariables false
set_option linter.unusedSimpArgs false
set_option linter.defProp false
set_option maxHeartbeats 40000000
set_option maxRecDepth 100000
namespace Go.Proofs.YtoihadcablknpaaGreatDoor
open Go.RowKit
open Go.Proofs.Tryz
open Go.Shelf
def Tryz.lQ:Go.Shelf.Ren:=⟨fun|137=>221|217=>239|266=>259|n=>n,fun|9=>9|5=>5|3=>3|n=>n,fun|n=>n⟩
def Tryz.lays92:Go.Proofs.Lays.n137 prog Tryz.lQ:={
 mixed:=rR
 f137:=func221.trans (zD some rR)
 f217:=func239.trans (zD some rR)
 f266:=func259.trans (zD some rR)
 t3:=underlying3
 a3:=isAgg3
 z3:=sizeOf3
 v3:=zeroValue3
 t5:=underlying5
 a5:=isAgg5
 z5:=sizeOf5
 v5:=zeroValue5
 t9:=underlying9
 a9:=isAgg9
 z9:=sizeOf9
 v9:=zeroValue9 }
def Tryz.lP:Go.Shelf.Ren:=⟨fun|5=>161|7=>197|n=>n,fun|23=>183|25=>9|3=>3|4=>4|20=>20|n=>n,fun|n=>n⟩
def Tryz.clone67:Go.Proofs.SlLaysW.n5 prog Tryz.lP:={
 mixed:=rR
 f5:=⟨f161.name,dC,func161.trans (zD some rR)⟩
 f7:=func197.trans (zD some rR)
 t4:=underlying4
 a4:=isAgg4
 z4:=sizeOf4
 v4:=zeroValue4
 t20:=underlying20
 a20:=isAgg20
 z20:=sizeOf20
 v20:=zeroValue20
 t23:=underlying183
 a23:=isAgg183
 z23:=sizeOf183
 v23:=zeroValue183 }
def Tryz.gH:Go.Shelf.Ren:=⟨fun|7=>163|10=>200|n=>n,fun|23=>183|26=>9|3=>3|28=>292|0=>0|27=>291|33=>319|4=>4|n=>n,fun|n=>n⟩
def Tryz.gG:Go.Proofs.SlLaysZ.n7 prog Tryz.gH:={
 mixed:=rR
 f7:=⟨f163.name,dC,func163.trans (zD some rR)⟩
 f10:=⟨f200.name,dC,func200.trans (zD some rR)⟩
 t0:=underlying0
 a0:=isAgg0
 z0:=sizeOf0
 v0:=zeroValue0
 t4:=underlying4
 a4:=isAgg4
 z4:=sizeOf4
 v4:=zeroValue4
 t23:=underlying183
 a23:=isAgg183
 z23:=sizeOf183
 v23:=zeroValue183
 t26:=underlying9
 a26:=isAgg9
 z26:=sizeOf9
 v26:=zeroValue9
 t27:=underlying291
 a27:=isAgg291
 z27:=sizeOf291
 v27:=zeroValue291
 t28:=underlying292
 a28:=isAgg292
 z28:=sizeOf292
 v28:=zeroValue292
 t33:=underlying319
 a33:=isAgg319
 z33:=sizeOf319
 v33:=zeroValue319 }
def Tryz.gJ:Go.Shelf.Ren:=⟨fun|6=>162|8=>198|9=>199|11=>224|13=>226|12=>225|23=>250|24=>251|14=>241|15=>242|16=>243|17=>244|18=>245|19=>246|20=>247|21=>248|22=>249|25=>261|26=>262|27=>263|28=>264|29=>265|30=>266|31=>270|n=>n,fun|26=>9|28=>292|24=>289|0=>0|3=>3|37=>312|48=>347|50=>189|4=>4|40=>371|39=>370|45=>242|5=>5|9=>9|51=>384|55=>388|57=>391|58=>40|33=>319|n=>n,fun|n=>n⟩
def Tryz.lO:Go.Proofs.SlLaysZ.n6 prog Tryz.gJ:={
 mixed:=rR
 f6:=⟨f162.name,dC,func162.trans (zD some rR)⟩
 f8:=⟨f198.name,dC,func198.trans (zD some rR)⟩
 f11:=⟨f224.name,dC,func224.trans (zD some rR)⟩
 t0:=underlying0
 a0:=isAgg0
 z0:=sizeOf0
 v0:=zeroValue0
 t24:=underlying289
 a24:=isAgg289
 z24:=sizeOf289
 v24:=zeroValue289
 t26:=underlying9
 a26:=isAgg9
 z26:=sizeOf9
 v26:=zeroValue9
 t28:=underlying292
 a28:=isAgg292
 z28:=sizeOf292
 v28:=zeroValue292
 i26:=by kernel_rfl }
def Tryz.lR:Go.Shelf.Ren:=⟨fun|6=>199|8=>226|9=>225|19=>250|20=>251|21=>241|22=>242|23=>243|24=>244|25=>245|26=>246|27=>247|28=>248|29=>249|36=>261|31=>262|32=>263|37=>264|38=>265|39=>266|41=>270|n=>n,fun|27=>289|29=>9|3=>3|32=>312|26=>289|0=>0|44=>347|46=>189|4=>4|36=>371|35=>370|41=>242|5=>5|9=>9|53=>384|57=>388|63=>391|64=>40|n=>n,fun|n=>n⟩
def Tryz.gI:Go.Proofs.SlLaysM.n6 prog Tryz.lR:={
 mixed:=rR
 f6:=⟨f199.name,dC,func199.trans (zD some rR)⟩
 f8:=func226.trans (zD some rR)
 f9:=⟨f225.name,dC,func225.trans (zD some rR)⟩
 f19:=func250.trans (zD some rR)
 f20:=func251.trans (zD some rR)
 f21:=⟨f241.name,dC,func241.trans (zD some rR)⟩
 f22:=⟨f242.name,dC,func242.trans (zD some rR)⟩
 f23:=⟨f243.name,dC,func243.trans (zD some rR)⟩
 f24:=⟨f244.name,dC,func244.trans (zD some rR)⟩
 f25:=⟨f245.name,dC,func245.trans (zD some rR)⟩
 f26:=⟨f246.name,dC,func246.trans (zD some rR)⟩
 f27:=⟨f247.name,dC,func247.trans (zD some rR)⟩
 f28:=⟨f248.name,dC,func248.trans (zD some rR)⟩
 f29:=⟨f249.name,dC,func249.trans (zD some rR)⟩
 f31:=func262.trans (zD some rR)
 f32:=func263.trans (zD some rR)
 f36:=⟨f261.name,dC,func261.trans (zD some rR)⟩
 f37:=⟨f264.name,dC,func264.trans (zD some rR)⟩
 f38:=⟨f265.name,dC,func265.trans (zD some rR)⟩
 f39:=⟨f266.name,dC,func266.trans (zD some rR)⟩
 f41:=⟨f270.name,dC,func270.trans (zD some rR)⟩
 t0:=underlying0
 a0:=isAgg0
 z0:=sizeOf0
 v0:=zeroValue0
 t3:=underlying3
 a3:=isAgg3
 z3:=sizeOf3
 v3:=zeroValue3
 t4:=underlying4
 a4:=isAgg4
 z4:=sizeOf4
 v4:=zeroValue4
 t5:=underlying5
 a5:=isAgg5
 z5:=sizeOf5
 v5:=zeroValue5
 t9:=underlying9
 a9:=isAgg9
 z9:=sizeOf9
 v9:=zeroValue9
 t26:=underlying289
 a26:=isAgg289
 z26:=sizeOf289
 v26:=zeroValue289
 t27:=underlying289
 a27:=isAgg289
 z27:=sizeOf289
 v27:=zeroValue289
 t29:=underlying9
 a29:=isAgg9
 z29:=sizeOf9
 v29:=zeroValue9
 t32:=underlying312
 a32:=isAgg312
 z32:=sizeOf312
 v32:=zeroValue312
 t35:=underlying370
 a35:=isAgg370
 z35:=sizeOf370
 v35:=zeroValue370
 t36:=underlying371
 a36:=isAgg371
 z36:=sizeOf371
 v36:=zeroValue371
 t41:=underlying242
 a41:=isAgg242
 z41:=sizeOf242
 v41:=zeroValue242
 t44:=underlying347
 a44:=isAgg347
 z44:=sizeOf347
 v44:=zeroValue347
 t46:=underlying189
 a46:=isAgg189
 z46:=sizeOf189
 v46:=zeroValue189
 t53:=underlying384
 a53:=isAgg384
 z53:=sizeOf384
 v53:=zeroValue384
 t57:=underlying388
 a57:=isAgg388
 z57:=sizeOf388
 v57:=zeroValue388
 t63:=underlying391
 a63:=isAgg391
 z63:=sizeOf391
 v63:=zeroValue391
 t64:=underlying40
 a64:=isAgg40
 z64:=sizeOf40
 v64:=zeroValue40 }
namespace V.M
def lsz(b:Int):Nat :=
 if 194<=b/\b<=223 then 2 else if 224<=b/\b<=239 then 3 else if 240<=b/\b<=244 then 4 else 1
def lo2(b:Int):Int:=if b=224 then 160 else if b=237 then 128 else if b=240 then 144 else 128
def hi2(b:Int):Int:=if b=224 then 191 else if b=237 then 159 else if b=240 then 191 else if b=244 then 143 else 191
def loB(b:Int)(j:Nat):Int:=if j=0 then lo2 b else 128
def hiB(b:Int)(j:Nat):Int:=if j=0 then hi2 b else 191
def cK(T:Nat->Int)(p:Nat):Bool :=
 decide (∀j,j<lsz (T p)-1->loB (T p) j<=T (p+1+j)/\T (p+1+j)<=hiB (T p) j)
def cl(T:Nat->Int)(n p:Nat):Nat :=
 if lsz (T p)<=n-p then (if cK T p=true then lsz (T p) else 1) else 1
def dL b:1<=lsz b/\lsz b<=4:=by unfold lsz;split<;>(try split)<;>(try split)<;>omega
def eM T n p:1<=cl T n p/\cl T n p<=4:=by
 have:=dL (T p);unfold cl;split<;>(try split)<;>omega
def eL T n p(h:p<n):p+cl T n p<=n:=by
 have:=dL (T p);unfold cl;split<;>(try split)<;>omega
def v0(b:Int)(m:Nat):Int :=
 if m=2/\b / 32=6 then b%32 else if m=3/\b / 16=14 then b%16 else if m=4/\b / 8=30 then b%8 else -1
def acc(T:Nat->Int)(p:Nat)(v:Int):Nat->Int
 |0=>v
 |k+1=>acc T p v k*64+T (p+(k+1))%64
def dP(T:Nat->Int)(p m:Nat):Bool:=decide (∀j,j<m-1->T (p+(j+1)) / 64=2)
def cB(T:Nat->Int)(n p m:Nat):Int :=
 if n<p+m then -1 else if v0 (T p) m<0 then -1 else if dP T p m=true then acc T p (v0 (T p) m) (m-1) else -1
def gd(v:Int)(m:Nat):Bool :=
 if m=2 then decide (128<=v) else if m=3 then decide (2048<=v/\(v<55296\/57343<v)) else decide (65536<=v/\v<=1114111)
def yes(T:Nat->Int)(n p m:Nat):Bool:=decide (0<=cB T n p m)&&gd (cB T n p m) m
def scl(T:Nat->Int)(n p:Nat):Nat :=
 if yes T n p 2=true then 2 else if yes T n p 3=true then 3 else if yes T n p 4=true then 4 else 1
def acc_bd T p v(b:0<=v)(c:v<=31)k(a:k<=4):0<=acc T p v k/\acc T p v k<=1000000000:=by
 match k,a with
 |0,_|1,_|2,_|3,_|4,_=>simp only[acc];omega
def nM T p:cK T p=true↔(1<lsz (T p)->lo2 (T p)<=T (p+1)/\T (p+1)<=hi2 (T p))/\(2<lsz (T p)->128<=T (p+2)/\T (p+2)<=191)/\(3<lsz (T p)->128<=T (p+3)/\T (p+3)<=191):=by
 unfold cK;rw[decide_eq_true_iff];have:=dL (T p);constructor
 ·intro h;exact⟨λb=>h 0 oM,λb=>h 1 oM,λb=>h 2 oM⟩
 rintro⟨c,d,e⟩ j a;match j,a with
 |0,a=>exact c oM
 |1,a=>exact d oM
 |2,a=>exact e oM
 |j+3,a=>omega
def nL T p m(f:m<=4):dP T p m=true↔(1<m->T (p+1) / 64=2)/\(2<m->T (p+2) / 64=2)/\(3<m->T (p+3) / 64=2):=by
 unfold dP;rw[decide_eq_true_iff];constructor
 ·intro h;exact⟨λb=>h 0 oM,λb=>h 1 oM,λb=>h 2 oM⟩
 rintro⟨c,d,e⟩ j a;match j,a with
 |0,a=>exact c oM
 |1,a=>exact d oM
 |2,a=>exact e oM
 |j+3,a=>omega
def nN b:lsz b=2↔194<=b/\b<=223:=by
 unfold lsz;split<;>(try split)<;>(try split)<;>omega
def nO b:lsz b=3↔224<=b/\b<=239:=by
 unfold lsz;split<;>(try split)<;>(try split)<;>omega
def nP b:lsz b=4↔240<=b/\b<=244:=by
 unfold lsz;split<;>(try split)<;>(try split)<;>omega
def uvY b:v0 b 2=if b / 32=6 then b%32 else -1:=by unfold v0;simp
def uvZ b:v0 b 3=if b / 16=14 then b%16 else -1:=by unfold v0;simp
def uv0 b:v0 b 4=if b / 8=30 then b%8 else -1:=by unfold v0;simp
def gd_2 v:gd v 2=decide (128<=v):=by simp[gd]
def gd_3 v:gd v 3=decide (2048<=v/\(v<55296\/57343<v)):=by simp[gd]
def gd_4 v:gd v 4=decide (65536<=v/\v<=1114111):=by simp[gd]
def ut7 b:(b=224/\lo2 b=160)\/(b=240/\lo2 b=144)\/(b≠224/\b≠240/\lo2 b=128):=by
 unfold lo2;split<;>(try split)<;>(try split)<;>omega
def ut8 b:(b=237/\hi2 b=159)\/(b=244/\hi2 b=143)\/(b≠237/\b≠244/\hi2 b=191):=by
 unfold hi2;split<;>(try split)<;>(try split)<;>(try split)<;>omega
def fO(T:Nat->Int)(n p m:Nat)(g:m=2\/m=3\/m=4)(a:∀i,0<=T i/\T i<=255):yes T n p m=true↔p+m<=n/\lsz (T p)=m/\cK T p=true:=by
 have k:=a p;have l:=a (p+1);have o:=a (p+2);have r:=a (p+3);have l2:=nN (T p);have t:=nO (T p);have u:=nP (T p);have h:=ut7 (T p);have j:=ut8 (T p);have f:=nL T p m oM;rw[nM];unfold yes cB;generalize dP T p m=q at *;generalize lo2 (T p)=v at *;generalize hi2 (T p)=s at *;generalize lsz (T p)=w at *;rcases g with rfl|rfl|rfl<;>simp only[uvY,uvZ,uv0,gd_2,gd_3,gd_4,Kd,decide_eq_true_iff,acc]
 all_goals
  generalize T p=b at *;generalize T (p+1)=c at *;generalize T (p+2)=d at *;generalize T (p+3)=e at *;cases q<;>simp at f ⊢<;>repeat' split
  all_goals omega
def scl_eq T n p(h:p<n)(b:∀i,0<=T i/\T i<=255):scl T n p=cl T n p:=by
 have y2:=fO T n p 2 oM b;have c:=fO T n p 3 oM b;have d:=fO T n p 4 oM b;have g:=dL (T p);unfold scl cl;by_cases a:cK T p=true
 ·simp only[a,and_true]at y2 c d;simp only[a,if_true];generalize lsz (T p)=j at *;split<;>(try split)<;>(try split)<;>(try split)<;>simp_all<;>omega
 simp only[a]at y2 c d;simp[y2,c,d];intro f e;exact aB e a
def pos(T:Nat->Int)(n f:Nat):Nat->Nat
 |0=>f
 |c+1=>pos T n f c+cl T n (pos T n f c)
def fM T n f c:pos T n f c<pos T n f (c+1):=by
 have:=(eM T n (pos T n f c)).1;simp only[pos];omega
def iB T n f c:f+c<=pos T n f c:=by
 induction c with
 |zero=>exact wF
 |succ c a=>have:=fM T n f c;omega
def Col(T:Nat->Int)(n f off c:Nat):Prop:=(∀j,j<c->pos T n f j<off)/\off<=pos T n f c
def Col.a{T n f off c d}(h:Col T n f off c)(k:Col T n f off d):c=d:=by
 rcases Nat.lt_trichotomy c d with e|e|e
 ·have:=k.1 c e;have:=h.2;omega
 ·exact e
 have:=h.1 d e;have:=k.2;omega
def Start(T:Nat->Int)(off f:Nat):Prop:=f<=off/\(f=0\/T (f-1)=10)/\∀j,f<=j->j<off->T j≠10
def Start.a{T off f g}(h:Start T off f)(k:Start T off g):f=g:=by
 obtain⟨j,b,d⟩:=h;obtain⟨l,c,i⟩:=k;rcases Nat.lt_trichotomy f g with e|e|e
 ·rcases c with c|c
  ·omega
  exact aB c (d (g-1) oM oM)
 ·exact e
 rcases b with b|b
 ·omega
 exact aB b (i (f-1) oM oM)
def cnt(T:Nat->Int):Nat->Nat
 |0=>0
 |k+1=>if T k=10 then cnt T k+1 else cnt T k
def dE T k:cnt T k<=k:=by
 induction k with
 |zero=>exact wF
 |succ k a=>simp only[cnt];split<;>omega
def iA T f k(h:f<=k)(a:∀j,f<=j->j<k->T j≠10):cnt T k=cnt T f:=by
 induction k with
 |zero =>
   obtain rfl:f=0:=oM;rfl
 |succ k c =>
  by_cases e:f=k+1
  ·subst e;rfl
  simp only[cnt];rw[Zn (a k oM oM)];exact c oM (λj b d=>a j b oM)
def gZ T k(h:T k=10):cnt T (k+1)=cnt T k+1:=by simp only[cnt,Zp h]
def urv T n f m p(r:p<m)(q:f+m<=n)(g:f+m<n->T (f+m)=10):cl (λi=>T (f+i)) m p=cl T n (f+p):=by
 have h:cK (λi=>T (f+i)) p=cK T (f+p):=by
  unfold cK;have e:∀j,f+(p+1+j)=f+p+1+j:=λj=>by omega
  simp only[e]
 have l:=dL (T (f+p));unfold cl;rw[h];by_cases a:lsz (T (f+p))<=m-p
 ·rw[Zp a,Zp (show lsz (T (f+p))<=n-(f+p) by omega)]
 rw[Zn a];by_cases b:lsz (T (f+p))<=n-(f+p)
 ·rw[Zp b];have k:=g oM;have d:¬cK T (f+p)=true:=by
   intro c;unfold cK at c;have:=of_decide_eq_true c (m-p-1) oM;have e:f+p+1+(m-p-1)=f+m:=oM;rw[e,k]at this;have o:128<=loB (T (f+p)) (m-p-1):=by
    unfold loB lo2;split<;>(try split)<;>(try split)<;>(try split)<;>omega
   omega
  rw[Zn d]
 rw[Zn b]
def nB T n f m c(d:f+m<=n)(b:f+m<n->T (f+m)=10)(a:∀j,j<c->pos (λi=>T (f+i)) m 0 j<m) :
  pos T n f c=f+pos (λi=>T (f+i)) m 0 c:=by
 induction c with
 |zero=>rfl
 |succ c e =>
  have ih':=e (λj g=>a j oM);simp only[pos];rw[ih',urv T n f m _ (a c oM) d b];omega
end V.M
namespace V
def Tx(w:Wl)(b off n:Nat)(T:Nat->Int):Prop:=∀i,i<n->w.cell? (Ad b (off+i))=some (Bv (T i))
def bU{k a b}(h:a=b):Rt (.int k a)=Rt (.int k b):=by rw[h]
def fF{b}{w}(h:0<=b)(i:b<=255) :
  Cs 253 #[Bv b] w λe w'=>e=Rt (Iv (M.lsz b:Nat))/\w'=w:=by
 have g:(194<=b/\b<=223)\/(224<=b/\b<=239)\/(240<=b/\b<=244)\/(b<194\/244<b):=oM;have d:Hid (M.lsz b=if 194<=b/\b<=223 then 2 else if 224<=b/\b<=239 then 3 else if 240<=b/\b<=244 then 4 else 1):=rfl;rcases g with⟨a,c⟩|⟨a,c⟩|⟨a,c⟩|a
 ·go_enter func253,ntmps253;go_wp2;go_ret;exact⟨bU (by rw[d.o,Zp ⟨a,c⟩];rfl),rfl⟩
 ·go_enter func253,ntmps253;go_wp2;go_ret;exact⟨bU (by rw[d.o,Zn oM,Zp ⟨a,c⟩];rfl),rfl⟩
 ·go_enter func253,ntmps253;go_wp2;go_ret;exact⟨bU (by rw[d.o,Zn oM,Zn oM,Zp ⟨a,c⟩];rfl),rfl⟩
 have f:Hid (M.lsz b=1):=by show M.lsz b=1;rw[d.o,Zn oM,Zn oM,Zn oM]
 rcases a with a|a
 ·go_enter func253,ntmps253;go_wp2;go_ret;exact⟨bU (by rw[f.o];rfl),rfl⟩
 go_enter func253,ntmps253;go_wp2;go_ret;exact⟨bU (by rw[f.o];rfl),rfl⟩
def urq{k a b c d}(h:a=b)(e:c=d):Rt (.tuple #[.int k a,.int k c])=Rt (.tuple #[.int k b,.int k d]):=by rw[h,e]
def gS{b}{w}(j:0<=b)(k:b<=255) :
  Cs 254 #[Bv b] w λe w'=>e=Rt (.tuple #[Bv (M.lo2 b),Bv (M.hi2 b)])/\w'=w:=by
 by_cases a:b=224
 ·subst a;go_enter func254,ntmps254;go_wp2;go_ret2;exact⟨rfl,rfl⟩
 by_cases c:b=237
 ·subst c;go_enter func254,ntmps254;go_wp2;go_ret2;exact⟨rfl,rfl⟩
 by_cases c3:b=240
 ·subst c3;go_enter func254,ntmps254;go_wp2;go_ret2;exact⟨rfl,rfl⟩
 by_cases d:b=244
 ·subst d;go_enter func254,ntmps254;go_wp2;go_ret2;exact⟨rfl,rfl⟩
 have H:Hid (M.lo2 b=128/\M.hi2 b=191):=by
  refine⟨?_,?_⟩
  ·unfold M.lo2;rw[Zn a,Zn c,Zn c3]
  unfold M.hi2;rw[Zn a,Zn c,Zn c3,Zn d]
 have f:=Ht.2 a;have g:=Ht.2 c;have h:=Ht.2 c3;have i:=Ht.2 d;go_enter func254,ntmps254;go_wp2;go_ret2;exact⟨urq H.1.symm H.2.symm,rfl⟩
def ut0 b:0<=M.lo2 b/\M.lo2 b<=255:=by unfold M.lo2;split<;>(try split)<;>(try split)<;>omega
def ut1 b:0<=M.hi2 b/\M.hi2 b<=255:=by unfold M.hi2;split<;>(try split)<;>(try split)<;>(try split)<;>omega
def ut2 b k:0<=M.loB b k/\M.loB b k<=255:=by unfold M.loB;split;exact ut0 b;omega
def ut3 b k:0<=M.hiB b k/\M.hiB b k<=255:=by unfold M.hiB;split;exact ut1 b;omega
def dY(T:Nat->Int)(p k:Nat):Prop:=∀j,j<k->M.loB (T p) j<=T (p+1+j)/\T (p+1+j)<=M.hiB (T p) j
def mE{T n p}(h:n-p<M.lsz (T p)):M.cl T n p=1:=by unfold M.cl;rw[Zn oM]
def ut4{T n p}(h:M.lsz (T p)<=n-p)(a:dY T p (M.lsz (T p)-1)):M.cl T n p=M.lsz (T p):=by
 unfold M.cl;rw[Zp h,Zp (by unfold M.cK;exact Gi a)]
def ut5{T n p k}(b:k<M.lsz (T p)-1)(c:¬(M.loB (T p) k<=T (p+1+k)/\T (p+1+k)<=M.hiB (T p) k)):M.cl T n p=1:=by
 unfold M.cl;split
 ·rw[Zn (by unfold M.cK;intro a;exact c (of_decide_eq_true a k b))]
 rfl
def mH{T p k}(h:dY T p k)(a:M.loB (T p) k<=T (p+1+k)/\T (p+1+k)<=M.hiB (T p) k):dY T p (k+1):=λj b=>by
 by_cases e:j=k
 ·subst e;exact a
 exact h j oM
def mG b k:M.loB b (k+1)=128:=by simp[M.loB]
def mF b k:M.hiB b (k+1)=191:=by simp[M.hiB]
def mD b off n cap p T w(f:Tx w b off n T)(g:∀i,0<=T i/\T i<=255)(F:n<=1048576)(B:n<=cap)(t:p<n) :
  Cs 233 #[Sl (Sm b off) n cap,Iv p] w λe w'=>e=Rt (Iv (M.cl T n p:Nat))/\w'=w:=by
 have A:=f p t;have E:=M.dL (T p);obtain⟨x,b1⟩:=g p;by_cases u:n-p<M.lsz (T p)
 ·have H:Hid (M.cl T n p=1):=mE u;go_enter func233,ntmps233;go_wp2_with (first|(go_at_call 253;refine(fF aS aS).mono ?_;rintro e w' ⟨rfl,rfl⟩)|(go_at_call 254;refine(secondBounds_any _ _ aS aS).mono ?_;rintro e w' ⟨rfl,rfl⟩));go_ret;exact⟨bU (by rw[H.o];rfl),rfl⟩
 have h:Hid (dY T p (M.lsz (T p)-1)->M.cl T n p=M.lsz (T p)):=λa=>ut4 oM a
 have o:Hid (∀k,k<M.lsz (T p)-1->¬(M.loB (T p) k<=T (p+1+k)/\T (p+1+k)<=M.hiB (T p) k)->M.cl T n p=1):=λk l a=>ut5 l a
 by_cases v:cap=p+1
 ·subst v;have H:Hid (M.lsz (T p)=1):=by show _=_;omega
  go_enter func233,ntmps233;go_wp2_with (first|(go_at_call 253;refine(fF aS aS).mono ?_;rintro e w' ⟨rfl,rfl⟩)|(go_at_call 254;refine(gS aS aS).mono ?_;rintro e w' ⟨rfl,rfl⟩));go_loop [44] (λi=>i=Iv 0) (λ_=>0)
  ·rfl
  subst hrel;have D:¬((0:Int)<((p+M.lsz (T p)-(p+1):Nat):Int)):=oH H;go_wp2;go_ret;exact⟨bU (by rw[h.o (by rw[H.o];intro j r;omega)]),rfl⟩
 go_enter func233,ntmps233;go_wp2_with (first|(go_at_call 253;refine(fF aS aS).mono ?_;rintro e w' ⟨rfl,rfl⟩)|(go_at_call 254;refine(gS aS aS).mono ?_;rintro e w' ⟨rfl,rfl⟩));go_loop [7,8,44] (λlo q i=>∃k:Nat,k<=M.lsz (T p)-1/\i=Iv k/\lo=Bv (M.loB (T p) k)/\q=Bv (M.hiB (T p) k)/\dY T p k) (λ_ _ i=>4-(intOf i).toNat)
 ·exact⟨0,wP,rfl,rfl,rfl,λj r=>oM⟩
 obtain⟨k,l,rfl,rfl,rfl,a⟩:=hrel;have d:=ua a;by_cases s:k<M.lsz (T p)-1
 ·have C:w'.cell? (Ad b (off+(p+1)+k))=some (Bv (T (p+1+k))):=by have:=f (p+1+k) oM;rw[Eo];exact this
  have hlt':(k:Int)<((p+M.lsz (T p)-(p+1):Nat):Int):=oM;obtain⟨J,L⟩:=g (p+1+k);obtain⟨G,I⟩:=ut2 (T p) k;obtain⟨y,z⟩:=ut3 (T p) k;have m:=o k s;have c:=ua m;go_wp2
  ·go_ret;exact⟨bU (by rw[c.o oM];rfl),rfl⟩
  ·go_round
   ·exact⟨k+1,oM,by go_num,by rw[mG],by rw[mF],mH d oM⟩
   simp[intOf];omega
  go_ret;exact⟨bU (by rw[c.o oM];rfl),rfl⟩
 have hlt':¬((k:Int)<((p+M.lsz (T p)-(p+1):Nat):Int)):=oM;go_wp2;go_ret;exact⟨bU (by rw[h.o (by
   have:k=M.lsz (T p)-1:=oM;rw[<-this];exact d)]),rfl⟩
end V
namespace V
def fP{a b}(h:a=b):Rt (.bool a)=Rt (.bool b):=by rw[h]
def pE{m:Nat}(f:m=2\/m=3\/m=4)(v:Int)w:Cs 96 #[Iv v,Iv m] w λe w'=>e=Rt (.bool (M.gd v m))/\w'=w:=by
 obtain⟨r,b⟩:=nm (M.gd v m);have a:=ua b;rw[b];rcases f with rfl|rfl|rfl
 ·have H:Hid (r=decide (128<=v)):=a.symm.trans (M.gd_2 v);go_enter func96,ntmps96;go_wp2;go_ret;exact⟨fP H.symm,rfl⟩
 ·have H:Hid (r=decide (2048<=v/\(v<55296\/57343<v))):=a.symm.trans (M.gd_3 v);by_cases c:2048<=v<;>by_cases d:v<55296<;>by_cases g:57343<v
  all_goals
   go_enter func96,ntmps96;go_wp2;go_ret;exact⟨fP (by rw[H.o];first|exact(Gi oM).symm|exact(Gv oM).symm),rfl⟩
 have H:Hid (r=decide (65536<=v/\v<=1114111)):=a.symm.trans (M.gd_4 v);by_cases c:65536<=v<;>by_cases d:v<=1114111
 all_goals
  go_enter func96,ntmps96;go_wp2;go_ret;exact⟨fP (by rw[H.o];first|exact(Gi oM).symm|exact(Gv oM).symm),rfl⟩
def eC(T:Nat->Int)(p k:Nat):Prop:=∀j,j<k->T (p+(j+1)) / 64=2
def pD{T p k}(h:eC T p k)(a:T (p+(k+1)) / 64=2):eC T p (k+1):=λj b=>by
 by_cases e:j=k
 ·subst e;exact a
 exact h j oM
def pI{T n p m}(h:n<p+m):M.cB T n p m = -1:=by unfold M.cB;rw[Zp h]
def pH{T n p m}(h:¬n<p+m)(a:M.v0 (T p) m<0):M.cB T n p m = -1:=by unfold M.cB;rw[Zn h,Zp a]
def pG{T n p m k}(c:k<m-1)(a:¬T (p+(k+1)) / 64=2):M.cB T n p m = -1:=by
 unfold M.cB;split
 ·rfl
 split
 ·rfl
 rw[Zn (by unfold M.dP;intro b;exact a (of_decide_eq_true b k c))]
def pF{T n p m}(h:¬n<p+m)(b:¬M.v0 (T p) m<0)(a:eC T p (m-1)):M.cB T n p m=M.acc T p (M.v0 (T p) m) (m-1):=by
 unfold M.cB;rw[Zn h,Zn b,Zp (by unfold M.dP;exact Gi a)]
def pK{m:Nat}(O:m=2\/m=3\/m=4)(b off n cap p:Nat)T w(A:Tx w b off n T)(B:∀i,0<=T i/\T i<=255)(X:n<=1048576)(P:p<n) :
  Cs 95 #[Sl (Sm b off) n cap,Iv p,Iv m] w λe w'=>e=Rt (Iv (M.cB T n p m))/\w'=w:=by
 have S:=A p P;obtain⟨R,b1⟩:=B p;obtain⟨r,C⟩:=nm (M.cB T n p m);have l:=ua C;rw[C];by_cases y:n<p+m
 ·have H:Hid (r = -1):=l.symm.trans (pI y);have hs':(n:Int)<(p:Int)+(m:Int):=oM;go_enter func95,ntmps95;go_wp2;go_ret;exact⟨bU H.symm,rfl⟩
 have hs':¬(n:Int)<(p:Int)+(m:Int):=oM;obtain⟨v,c⟩:=nm (M.v0 (T p) m);have g:=ua c;have cs:(((m:Int)==2)=true/\((m:Int)==3)=false/\((m:Int)==4)=false/\((T p / 32==6)=true/\T p%32=v\/(T p / 32==6)=false/\-1=v))\/(((m:Int)==2)=false/\((m:Int)==3)=true/\((m:Int)==4)=false/\((T p / 16==14)=true/\T p%16=v\/(T p / 16==14)=false/\-1=v))\/(((m:Int)==2)=false/\((m:Int)==3)=false/\((m:Int)==4)=true/\((T p / 8==30)=true/\T p%8=v\/(T p / 8==30)=false/\-1=v)):=by
  rw[<-c];unfold M.v0;rcases O with rfl|rfl|rfl<;>simp<;>omega
 have J:Hid (v<0->r = -1):=λh=>l.symm.trans (pH y (by rw[g.o];exact h))
 have E:Hid (¬v<0->eC T p (m-1)->r=M.acc T p v (m-1)):=λh f=>by rw[<-l.o,pF y (by rw[g.o];exact h) f,g.o]
 have F:Hid (∀k,k<m-1->¬T (p+(k+1)) / 64=2->r = -1):=λk a f=>l.symm.trans (pG a f)
 have Q:v<=31:=by rcases cs with⟨_,_,_,h⟩|⟨_,_,_,h⟩|⟨_,_,_,h⟩<;>omega
 have W:2<=m/\m<=4:=oM;have L:Hid (¬v<0->∀k,k<=4->0<=M.acc T p v k/\M.acc T p v k<=1000000000):=λh k a=>M.acc_bd T p _ oM Q k a
 rcases cs with⟨q,s,t,⟨a,c⟩|⟨a,c⟩⟩|⟨q,s,t,⟨a,c⟩|⟨a,c⟩⟩|⟨q,s,t,⟨a,c⟩|⟨a,c⟩⟩;all_goals
  go_enter func95,ntmps95;go_upto_region 11 with fail;rw[c];by_cases x:v<0
  ·have H:=ua (J x);have g:=ua c;go_wp2;go_ret;first|exact⟨bU H.symm,rfl⟩|exact⟨bU (g.symm.trans H.symm),rfl⟩
  have G:=ua (L x);have D:=ua (E.o x);clear c a q s t;go_wp2;go_loop [8,9] (λu i=>∃k:Nat,k+1<=m/\i=Iv (k+1:Nat)/\u=Iv (M.acc T p v k)/\eC T p k) (λ_ i=>5-(intOf i).toNat)
  ·exact⟨0,oM,rfl,rfl,λj V=>oM⟩
  obtain⟨k,a,rfl,rfl,f⟩:=hrel;have z:=ua f;clear f;obtain⟨y0,y1⟩:=G.o k oM;by_cases N:k+1<m
  ·have hlt':((k+1:Nat):Int)<(m:Int):=oM;have U:=A (p+(k+1)) oM;obtain⟨Y,Z⟩:=B (p+(k+1));by_cases d:T (p+(k+1)) / 64=2
   ·have hd':(T (p+(k+1)) / 64 != 2)=false:=(by simp[d]);have o:=ua (pD z.o d);clear d;go_wp2;go_round
    ·exact⟨k+1,N,by go_num,rfl,o.o⟩
    simp[intOf];omega
   have hd':(T (p+(k+1)) / 64 != 2)=true:=(by simp[d]);have o:=ua (F.o k oM d);clear d;go_wp2;go_ret;exact⟨bU o.o.symm,rfl⟩
  have hlt':¬(((k+1:Nat):Int)<(m:Int)):=oM;have I:Hid (r=M.acc T p v k):=by
   obtain rfl:k=m-1:=oM;exact D.o z.o
  go_wp2;go_ret;exact⟨bU I.symm,rfl⟩
def urw{T n p m}(b:2<=m/\m<=4)(h:∀k,2<=k->k<m->M.yes T n p k=false)(a:M.yes T n p m=true):M.scl T n p=m:=by
 unfold M.scl;rcases(show m=2\/m=3\/m=4 by omega) with rfl|rfl|rfl
 ·rw[Zp a]
 ·rw[h 2 oM oM,Zn dC,Zp a]
 rw[h 2 oM oM,h 3 oM oM,Zn dC,Zn dC,Zp a]
def TR(T:Nat->Int)(n p:Nat)(i:Vl):Prop:=∃m:Nat,2<=m/\m<=5/\i=Iv (m:Int)/\∀k,2<=k->k<m->M.yes T n p k=false
def pJ b off n cap p T w(s:Tx w b off n T)(t:∀i,0<=T i/\T i<=255)(x:n<=1048576)(z:p<n) :
  Cs 68 #[Sl (Sm b off) n cap,Iv p] w λe w'=>e=Rt (Iv (M.scl T n p:Nat))/\w'=w:=by
 have C:decide (n<=p)=false:=sO;have D:decide ((p:Int)<0)=false:=sM;go_enter func68,ntmps68;go_wp2;go_loop [5] (λi=>TR T n p i) (λi=>6-(intOf i).toNat)
 ·exact⟨2,oM,oM,rfl,λk f r=>oM⟩
 obtain⟨m,A,B,rfl,y⟩:=hrel;have a:=ua y;by_cases v:m<=4
 rotate_left
 ·have hm':¬(m:Int)<=4:=oM;have Y:Hid (M.scl T n p=1):=by show _=_;unfold M.scl;rw[a.o 2 oM oM,a.o 3 oM oM,a.o 4 oM oM];rfl
  go_wp2;go_ret;exact⟨bU (by rw[Y.o];rfl),rfl⟩
 have hm':(m:Int)<=4:=oM;have o:=ua (pK (m:=m) oM b off n cap p T w s t x z);have l:=ua (pE (m:=m) oM (M.cB T n p m) w);have c:Hid (M.yes T n p m=(decide (0<=M.cB T n p m)&&M.gd (M.cB T n p m) m)):=rfl;have d:Hid (M.yes T n p m=false->TR T n p (Iv ((m:Int)+1))):=λh=>⟨m+1,oM,oM,by go_num,λk f r=>by
  by_cases e:k=m
  ·rw[e];exact h
  exact a k f oM⟩
 have q:=ua (urw (T:=T) (n:=n) (p:=p) ⟨A,v⟩ a);generalize M.cB T n p m=u at *;generalize M.gd u m=g at *;go_wp2_with fail;refine o.mono ?_;rintro e w' ⟨rfl,rfl⟩;by_cases j:0<=u
 ·go_wp2_with fail;refine l.mono ?_;rintro e w' ⟨rfl,rfl⟩;cases g with
  |true =>
   have Y:=ua (q (by rw[c.o];simp[j]));go_wp2;go_ret;exact⟨bU (by rw[Y.o]),rfl⟩
  |false =>
   have Y:=ua (d (by rw[c.o];simp));go_wp2;go_round
   ·exact Y
   simp[intOf];omega
 have Y:=ua (d (by rw[c.o];simp[j]));go_wp2;go_round
 ·exact Y
 simp[intOf];omega
end V
namespace V
def Tryz.eK:(prog.info? 5).map (λi=>(i.zero,i.size,i.bytes))=some (some (Bv 0),1,1):=rR
def cG{w:Wl}{a:Addr}{v:Vl}(h:w.cell? a=some v):a.block<w.heap.size:=by
 unfold World.cell? at h;cases b:w.heap[a.block]? with
 |none=>simp[b]at h
 |some o=>exact(Cq.1 b).1
def Tx.lt{w b off n T}(h:Tx w b off n T)(a:0<n):b<w.heap.size:=cG (h 0 a)
def Tx.q{w w' b off n T}(h:Tx w b off n T)(k:Bw w w'):Tx w' b off n T:=λi a =>
 (k.cell (p:=(Ad b (off+i))) (cG (h i a))).trans (h i a)
def dM(T:Nat->Int)(k:Nat)(j:Nat):Vl:=if j<k then Bv (T j) else Bv 0
def mQ{w:Wl}{b n k:Nat}{T:Nat->Int}(h:w.rowIs b 5 n (dM T k)):(w.setCell (Ad b k) (Bv (T k))).rowIs b 5 n (dM T (k+1)):=by
 refine(h.set k (Bv (T k))).congr λi _=>?_
 unfold dM;by_cases e:i=k
 ·subst e;simp
 rw[Zn e];by_cases a:i<k
 ·rw[Zp a,Zp oM]
 rw[Zn a,Zn oM]
def mT b off n cap T w(g:Tx w b off n T)(h:∀i,0<=T i/\T i<=255)(u:n<=1048576) :
  Cs 5 #[Sl (Sm b off) n cap] w λe w'=>e=Rt (Sl (Sm w.heap.size 0) n n)/\w'.rowIs w.heap.size 5 n (λi=>Bv (T i))/\Bw w w'/\w'.heap.size=w.heap.size+1:=by
 have t:=run_make_row' (P:=prog) 22 5 (Bv 0) 1 underlying22 Tryz.eK rfl .i64 .i64 n oM oM;go_enter func5,ntmps5;go_wp2;go_loopw [4] (λi wr=>∃k:Nat,k<=n/\i=Iv k/\wr.rowIs w.heap.size 5 n (dM T k)/\Bw w wr/\wr.heap.size=w.heap.size+1) (λi _=>n-(intOf i).toNat)
 ·exact⟨0,wP,rfl,(Ja w _ n 5).congr λi _=>by simp[dM],(wI w).alloc wF _,sM⟩
 obtain⟨k,s,rfl,a,c,f⟩:=hrel;by_cases d:k<n
 ·have m:=(g.q c) k d;have o:=a.cell d;have r:=a.frozen k;have l:=mQ a;obtain⟨v,x⟩:=h k;go_wp2;go_roundw
  ·exact⟨k+1,oM,by go_num,l,c.setCell (p:=(Ad w.heap.size k)) wF _,by simp[World.setCell,f]⟩
  simp[intOf];omega
 obtain rfl:k=n:=oM;go_wp2;go_ret;exact⟨rfl,a.congr λi j=>by simp[dM,j],c,f⟩
def mS(a:Oa)(cap:Nat)(T:Nat->Int)(w:Wl) :
  Cs 5 #[Sl a 0 cap] w λe w'=>e=Rt (Sl (Sm w.heap.size 0) 0 0)/\w'.rowIs w.heap.size 5 0 (λi=>Bv (T i))/\Bw w w'/\w'.heap.size=w.heap.size+1:=by
 have g:∀w,(Instr.makeSlice 22 (Iv 0) (Iv 0)).run prog w=.ok (Sl (Sm w.heap.size 0) 0 0) (w.alloc (Oc (madeCells #[Bv 0] 0) 5)):=λw=>run_make_row' (P:=prog) 22 5 (Bv 0) 1 underlying22 Tryz.eK rfl .i64 .i64 0 oM oM w
 go_enter func5,ntmps5;go_wp2;go_loopw [4] (λi wr=>i=Iv 0/\wr.rowIs w.heap.size 5 0 (λi=>Bv (T i))/\Bw w wr/\wr.heap.size=w.heap.size+1) (λi _=>0)
 ·exact⟨rfl,(Ja w _ 0 5).congr λi f=>oM,(wI w).alloc wF _,sM⟩
 obtain⟨rfl,c,b,d⟩:=hrel;go_wp2;go_ret;exact⟨rfl,c,b,d⟩
def ArgT(w:Wl)(a:Oa)(n:Nat)(T:Nat->Int):Prop:=n=0\/∃b off,a=some (Ad b off)/\Tx w b off n T
def ArgT.q{w w' a n T}(h:ArgT w a n T)(k:Bw w w'):ArgT w' a n T:=by
 rcases h with h|⟨b,off,e,h⟩
 ·exact .inl h
 exact .inr ⟨b,off,e,h.q k⟩
def mR a n cap T w(c:ArgT w a n T)(d:∀i,0<=T i/\T i<=255)(f:n<=1048576) :
  Cs 5 #[Sl a n cap] w λe w'=>e=Rt (Sl (Sm w.heap.size 0) n n)/\w'.rowIs w.heap.size 5 n (λi=>Bv (T i))/\Bw w w'/\w'.heap.size=w.heap.size+1:=by
 rcases c with rfl|⟨b,off,rfl,c⟩
 ·exact mS a cap T w
 exact mT b off n cap T w c d f
def uvq{w b n T}(h:w.rowIs b 5 n (λi=>Bv (T i))):Tx w b 0 n T:=λi a=>by
 rw[zL];exact h.cell a
end V
namespace V
open Go.RowKit Go.Shelf
attribute [local go_sem] Oper.semAt_some
def fI{w W b off n T}(h:Tx w b off n T)(e:0<n->W.heap[b]?=w.heap[b]?):Tx W b off n T:=λi c =>
 (zI (a:=(Ad b (off+i))) (e oM)).trans (h i c)
def mJ c b off m cap a B w(n:w.cell? (Ad c 0)=some (Sl a m cap))(s:Tx w b off m B)(I:∀i,0<=B i/\B i<=255)(O:m<=1048576)(L:m<=cap)(r:0<m->a=some (Ad b off)) :
  Nv prog 232 #[.pointer (Sm c 0)] 0 (λp=>p<m) (λp=>p+M.cl B m p) (λp=>#[Iv (p:Nat)]) (λk=>k=c\/(k=b/\0<m)) w:=by
 intro l C J Q W x A D U V X H y;have aa:Fence.wide.depth=none:=rfl;refine callsIn_of_wp func232 rfl trivial ?_ rfl;simp only[ntmps232,Fg,zQ,Ef,Nat.reduceAdd,Nat.reduceSub,Fu,Fv,Fx,Fw,Dl,Cb]
 gi_wp2
 gi_loopw [3] (λi wr=>∃p:Nat,p<=m/\i=Iv p/\J p wr/\W.heap.size<=wr.heap.size/\∀k,(k=c\/(k=b/\0<m))->wr.heap[k]?=w.heap[k]?)
  (λi _=>m-(intOf i).toNat)
 ·exact⟨0,wP,rfl,y,wF,A⟩
 obtain⟨p,hp,rfl,u,q,t⟩:=hrel;have Z:wr.cell? (Ad c 0)=some (Sl a m cap):=(zI (a:=(Ad c 0)) (t c (.inl rfl))).trans n;by_cases f:p<m
 ·obtain rfl:=r oM;clear r;obtain⟨T,tmps,R,S,hy,G⟩:=H p wr u f
  gi_wp2
  refine G.mono ?_;rintro e g (⟨rfl,E,v⟩|⟨rfl,F,_⟩)
  ·have j:∀k,(k=c\/(k=b/\0<m))->g.heap[k]?=w.heap[k]?:=λk o=>by
    refine(v.d k ?_ (D k o)).trans (t k o);rcases o with rfl|⟨rfl,P⟩
    ·exact wX (wX (cG n) x) q
    exact wX (wX (cG (s 0 P)) x) q
   have Y:g.cell? (Ad c 0)=some (Sl (Sm b off) m cap):=(zI (a:=(Ad c 0)) (j c (.inl rfl))).trans n;have z:Tx g b off m B:=fI s (λh=>j b (.inr ⟨rfl,h⟩));have N:=M.eL B m p f;have ab:=M.eM B m p
   gi_wp2_with (refine⟨trivial,?_⟩;gi_at_call 233;refine(callsIn_wide.2 (mD b off m cap p B g z I O L f)).mono ?_;rintro e w' ⟨rfl,rfl⟩)
   go_roundw
   ·exact⟨p+M.cl B m p,N,by go_num,E,wN q v.h,j⟩
   simp[intOf];omega
  gi_wp2
  refine wL (results_none rfl _ _ _) rfl ?_;exact⟨⟨_,rfl⟩,.inr ⟨p,f,F⟩⟩
 gi_wp2
 go_end0;exact⟨⟨_,rfl⟩,.inl ⟨p,f,u⟩⟩
def mI a n cap w :
  CallsIn Fence.wide 0 prog 215 #[Sl a n cap] w λe w'=>e=Rt (.func (.func 232) #[] #[.pointer (Sm w.heap.size 0)])/\w'=w.alloc (Oc #[Sl a n cap] 22):=by
 refine callsIn_of_wp func215 rfl trivial ?_ rfl;simp only[ntmps215,Fg,zQ,Ef,Nat.reduceAdd,Nat.reduceSub,Fu,Fv,Fx,Fw,Dl,Cb]
 gi_wp2
 go_ret;exact⟨rfl,rfl⟩
abbrev cL(num uL:Nat)(a:Oa)(m cap:Nat):Vl:=.agg #[Iv num,Iv uL,Sl a m cap]
def fH{num}{uL}{a}{m}{cap}{w}(b:uL<=1048576)(c:m<=1048576) :
  CallsIn Fence.wide 0 prog 187 #[cL num uL a m cap] w λe w'=>e=Rt (Iv (uL+m:Nat))/\w'=w.alloc (Oc #[Iv num,Iv uL,Sl a m cap] 268):=by
 refine callsIn_of_wp func187 rfl trivial ?_ rfl;simp only[ntmps187,Fg,zQ,Ef,Nat.reduceAdd,Nat.reduceSub,Fu,Fv,Fx,Fw,Dl,Cb]
 gi_wp2
 go_ret;exact⟨sM,rfl⟩
def mK num uL a m cap w :
  CallsIn Fence.wide 0 prog 188 #[cL num uL a m cap] w λe w'=>e=Rt (.func (.func 214) #[] #[.pointer (Sm w.heap.size 0)])/\w'=w.alloc (Oc #[Iv num,Iv uL,Sl a m cap] 268):=by
 refine callsIn_of_wp func188 rfl trivial ?_ rfl;simp only[ntmps188,Fg,zQ,Ef,Nat.reduceAdd,Nat.reduceSub,Fu,Fv,Fx,Fw,Dl,Cb]
 gi_wp2
 go_ret;exact⟨rfl,rfl⟩
def ut6 a n cap w :
  CallsIn Fence.wide 0 prog 186 #[Sl a n cap] w λe w'=>e=Rt (.func (.func 212) #[] #[.pointer (Sm w.heap.size 0)])/\w'=w.alloc (Oc #[Sl a n cap] 270):=by
 refine callsIn_of_wp func186 rfl trivial ?_ rfl;simp only[ntmps186,Fg,zQ,Ef,Nat.reduceAdd,Nat.reduceSub,Fu,Fv,Fx,Fw,Dl,Cb]
 gi_wp2
 go_ret;exact⟨rfl,rfl⟩
end V
namespace V
open Go.Shelf
def Tryz.pB:Go.Shelf.Ren:=⟨fun|176=>151|249=>189|288=>216|283=>234|284=>235|285=>236|286=>237|129=>251|317=>255|318=>256|319=>257|320=>258|337=>267|338=>268|n=>n,fun|37=>22|2=>2|3=>3|53=>189|4=>4|9=>9|171=>364|0=>0|173=>367|212=>382|51=>347|5=>5|20=>20|213=>383|46=>312|232=>393|233=>394|n=>n,fun|17=>2|18=>3|19=>4|n=>n⟩
def Tryz.nZ:Go.Proofs.LaysM.n176 prog Tryz.pB:={
 mixed:=rR
 f129:=func251.trans (zD some rR)
 f176:=func151.trans (zD some rR)
 f249:=func189.trans (zD some rR)
 f283:=func234.trans (zD some rR)
 f284:=func235.trans (zD some rR)
 f285:=func236.trans (zD some rR)
 f286:=func237.trans (zD some rR)
 f288:=func216.trans (zD some rR)
 f317:=func255.trans (zD some rR)
 f318:=func256.trans (zD some rR)
 f319:=func257.trans (zD some rR)
 f320:=func258.trans (zD some rR)
 f337:=func267.trans (zD some rR)
 f338:=func268.trans (zD some rR)
 t0:=underlying0
 a0:=isAgg0
 z0:=sizeOf0
 v0:=zeroValue0
 t2:=underlying2
 a2:=isAgg2
 z2:=sizeOf2
 v2:=zeroValue2
 t3:=underlying3
 a3:=isAgg3
 z3:=sizeOf3
 v3:=zeroValue3
 t4:=underlying4
 a4:=isAgg4
 z4:=sizeOf4
 v4:=zeroValue4
 t5:=underlying5
 a5:=isAgg5
 z5:=sizeOf5
 v5:=zeroValue5
 t9:=underlying9
 a9:=isAgg9
 z9:=sizeOf9
 v9:=zeroValue9
 t20:=underlying20
 a20:=isAgg20
 z20:=sizeOf20
 v20:=zeroValue20
 t37:=underlying22
 a37:=isAgg22
 z37:=sizeOf22
 v37:=zeroValue22
 t46:=underlying312
 a46:=isAgg312
 z46:=sizeOf312
 v46:=zeroValue312
 t51:=underlying347
 a51:=isAgg347
 z51:=sizeOf347
 v51:=zeroValue347
 t53:=underlying189
 a53:=isAgg189
 z53:=sizeOf189
 v53:=zeroValue189
 t171:=underlying364
 a171:=isAgg364
 z171:=sizeOf364
 v171:=zeroValue364
 t173:=underlying367
 a173:=isAgg367
 z173:=sizeOf367
 v173:=zeroValue367
 t212:=underlying382
 a212:=isAgg382
 z212:=sizeOf382
 v212:=zeroValue382
 t213:=underlying383
 a213:=isAgg383
 z213:=sizeOf383
 t232:=underlying393
 a232:=isAgg393
 z232:=sizeOf393
 v232:=zeroValue393
 t233:=underlying394
 a233:=isAgg394
 z233:=sizeOf394
 v233:=zeroValue394
 g17:=rR
 g18:=rR
 g19:=rR
 i0:=rR
 i2:=rR
 i3:=rR
 i4:=rR
 i5:=rR
 i9:=rR
 i20:=rR
 i37:=rR
 i46:=rR
 i51:=rR
 i53:=rR
 i171:=rR
 i173:=rR
 i212:=rR
 i232:=rR
 i233:=rR
 m17:=rR
 m18:=rR
 m19:=by kernel_rfl }
open Go.RowKit Go.Sort Go.Lib in
def Tryz.nU B n i(h0 : -9223372036854775808 <= i)(h1 : i <= 9223372036854775807)sv xs w(hown : w.ownsRow B 5 1 sv n xs)(hBw : B <= w.heap.size)(hlim : n + 21 <= 140737488355328)(htab : Lib.TabBelow Tryz.prog B w "internal/strconv.uint64pow10" .u64 Lib.pow10Tab) :
  Cs 151 #[sv,Iv i,Iv 10] w λe w'=>∃v',e=Rt v'/\w'.ownsRow B 5 1 v' (n+(Lib.itoa i).length) (xs++Lib.byteCells (Lib.itoa i))/\Below B w w'/\Lib.OthersKept 5 none w w':=Any.strconv_AppendInt_10 Tryz.nZ B n i h0 h1 sv xs w hown hBw hlim htab
def Tryz.nY:Go.Shelf.Ren:=⟨fun|212=>190|263=>217|264=>218|n=>n,fun|46=>312|51=>347|146=>348|53=>189|148=>350|n=>n,fun|n=>n⟩
def Tryz.lays212:Go.Proofs.Lays.n212 prog Tryz.nY:={
 mixed:=rR
 f212:=func190.trans (zD some rR)
 f263:=func217.trans (zD some rR)
 f264:=func218.trans (zD some rR)
 t46:=underlying312
 a46:=isAgg312
 z46:=sizeOf312
 v46:=zeroValue312
 t51:=underlying347
 a51:=isAgg347
 z51:=sizeOf347
 v51:=zeroValue347
 t53:=underlying189
 a53:=isAgg189
 z53:=sizeOf189
 v53:=zeroValue189
 t146:=underlying348
 a146:=isAgg348
 z146:=sizeOf348
 v146:=zeroValue348
 t148:=underlying350
 a148:=isAgg350
 z148:=sizeOf350
 v148:=zeroValue350 }
open Go.RowKit Go.Lib in
def Tryz.nX(x y:Nat)(a:x<18446744073709551616)(b:y<18446744073709551616)w :
  Cs 190 #[Uv x,Uv y] w λe w'=>e=Rt (.tuple #[Uv ((x*y / 18446744073709551616:Nat):Int),Uv ((x*y%18446744073709551616:Nat):Int)])/\w'=w:=Any.bits_Mul Tryz.lays212 x y a b w
def Tryz.pC:Go.Shelf.Ren:=⟨fun|14=>115|15=>153|n=>n,fun|26=>73|22=>22|3=>3|4=>4|0=>0|9=>9|20=>20|5=>5|n=>n,fun|n=>n⟩
def Tryz.eQ:Go.Proofs.SlLaysJ.n14 prog Tryz.pC:={
 mixed:=rR
 f14:=func115.trans (zD some rR)
 f15:=func153.trans (zD some rR)
 t0:=underlying0
 a0:=isAgg0
 z0:=sizeOf0
 v0:=zeroValue0
 t3:=underlying3
 a3:=isAgg3
 z3:=sizeOf3
 v3:=zeroValue3
 t4:=underlying4
 a4:=isAgg4
 z4:=sizeOf4
 v4:=zeroValue4
 t9:=underlying9
 a9:=isAgg9
 z9:=sizeOf9
 v9:=zeroValue9
 t20:=underlying20
 a20:=isAgg20
 z20:=sizeOf20
 v20:=zeroValue20
 t22:=underlying22
 a22:=isAgg22
 z22:=sizeOf22
 v22:=zeroValue22
 t26:=underlying73
 a26:=isAgg73
 z26:=sizeOf73
 v26:=zeroValue73
 t5:=underlying5
 z5:=sizeOf5
 i5:=by kernel_rfl }
open Go.RowKit Go.Lib in
def Tryz.iW b o n c g ls d a w(m:ls.length=n)(h:2<=n)(i:Lib.PartsAt w (Ad b o) g ls)(k:n<=c)(j:Lib.HoldsBytes w d a)(p:n<=140737488355328)(l:Lib.lens ls+a.length*(n-1)<=140737488355328) :
  Cs 115 #[Sl (Sm b o) n c,d] w λe w'=>∃f,e=Rt f/\Lib.FreshBytes w.heap.size w' f (Lib.join ls a)/\Bw w w':=Any.bytes_Join_many Tryz.eQ b o n c g ls d a w m h i k j p l
open Go.RowKit Go.Lib in
def Tryz.iX b o c d f a g w(l:w.cell? (Ad b o)=some (Sl (some d) a.length f))(k:∀(i:Nat) x,a[i]?=some x->w.cell? (d.add i)=some (Bv (x.toNat:Int)))(j:0<a.length)(m:a.length<=140737488355328) :
  Cs 115 #[Sl (Sm b o) 1 c,g] w λe w'=>∃h,e=Rt h/\Lib.FreshBytes w.heap.size w' h a/\Bw w w':=Any.bytes_Join_one Tryz.eQ b o c d f a g w l k j m
end V
namespace V
def mU(a b:List UInt8):(⟨a.toArray⟩:ByteArray)++(⟨b.toArray⟩:ByteArray)=⟨(a++b).toArray⟩:=by
 apply ByteArray.ext;simp
def dZ u:(Lib.decDigits u).length<=u+1:=by
 induction u using Nat.strongRecOn with
 |_ u a =>
  by_cases h:u<10
  ·rw[Lib.decDigits_one h];simp
  have:=a (u / 10) oM;rw[Lib.decDigits,dif_neg h];simp;omega
def gU(u:Nat)(h:u<10)w:Cs 43 #[Iv u] w λe w'=>e=Rt (.string ⟨(Lib.decDigits u).toArray⟩)/\w'=w:=by
 rw[Lib.decDigits_one h];have a:(u:Int)<10:=oM;go_enter func43,ntmps43;obtain rfl|rfl|rfl|rfl|rfl|rfl|rfl|rfl|rfl|rfl:u=0\/u=1\/u=2\/u=3\/u=4\/u=5\/u=6\/u=7\/u=8\/u=9:=oM;all_goals
  go_wp2;go_ret;exact⟨rfl,rfl⟩
def gT(u:Nat)(m:u<=8388608)w:Cs 43 #[Iv u] w λe w'=>e=Rt (.string ⟨(Lib.decDigits u).toArray⟩)/\w'=w:=by
 induction u using Nat.strongRecOn generalizing w with
 |_ u c =>
  by_cases h:u<10
  ·exact gU u h w
  have j:Int.tdiv (u:Int) 10=((u / 10:Nat):Int):=by rw[Int.tdiv_eq_ediv_of_nonneg oM];omega
  have k:Int.tmod (u:Int) 10=((u%10:Nat):Int):=by rw[Int.tmod_eq_emod_of_nonneg oM];omega
  have i:¬((u:Int)<10):=oM;have d:=c (u / 10) oM oM;have f:=gU (u%10) oM;have b:Lib.decDigits u=Lib.decDigits (u / 10)++Lib.decDigits (u%10):=by
   rw[Lib.decDigits_one (show u%10<10 by omega)]
   conv=>lhs;rw[Lib.decDigits,dif_neg h]
  have a:=mU (Lib.decDigits (u / 10)) (Lib.decDigits (u%10));rw[b,<-a];have g:=dZ (u / 10);have l2:=dZ (u%10);have l:¬(9223372036854775807<(⟨(Lib.decDigits (u / 10)).toArray⟩:ByteArray).size+(⟨(Lib.decDigits (u%10)).toArray⟩:ByteArray).size):=by
   show ¬(9223372036854775807<(Lib.decDigits (u / 10)).length+(Lib.decDigits (u%10)).length);omega
  clear a b c g l2;generalize n:(⟨(Lib.decDigits (u / 10)).toArray⟩:ByteArray)=x at *;generalize o:(⟨(Lib.decDigits (u%10)).toArray⟩:ByteArray)=y at *;go_enter func43,ntmps43;go_wp2_with fail;refine(d _).mono ?_;rintro e w1 ⟨rfl,rfl⟩;go_wp2_with fail;refine(f _).mono ?_;rintro e p ⟨rfl,rfl⟩;go_wp2;go_ret;exact⟨rfl,rfl⟩
end V
namespace V
def Tryz.size5:(prog.info? 5).map (·.size)=some 1:=rR
def Blank(w:Wl)(g c k:Nat):Prop:=∃a:List Value,w.heap[g]?=some (.cells a.toArray 5 (0,0))/\c<=a.length/\∀i,i<k->a[i]?=some (Bv 32)
def Blank.p{w g c k i}(h:Blank w g c k)(d:i<k):w.cell? (Ad g i)=some (Bv 32):=by
 obtain⟨e,a,f,b⟩:=h;simp only[World.cell?,a];simpa using b i d
def iG(c:Nat)w(h:c<=1048576):Cs 190 #[Uv 1,Uv c] w λe w'=>e=Rt (.tuple #[Uv 0,Uv c])/\w=w':=by
 refine(Tryz.nX 1 c oM oM w).mono ?_;rintro e w' ⟨rfl,rfl⟩;refine⟨?_,rfl⟩;have a:1*c / 18446744073709551616=0:=oM;have b:1*c%18446744073709551616=c:=oM;rw[a,b];rfl
def nV{w g c cs}(d:w.heap[g]?=some (.cells (splice cs 0 [Bv 32]).toArray 5 (0,0)))(a:1<=cs.length)(b:c<=cs.length):Blank w g c 1:=by
 refine⟨_,d,by rw[length_splice _ _ _ (by simpa using a)];exact b,λi e=>?_⟩;obtain rfl:i=0:=oM;simp[splice]
def nW{w' g c k q a}(e:w'.heap[g]?=some (.cells (splice a k (List.replicate q (Bv 32))).toArray 5 (0,0)))(d:c<=a.length)(f:∀i,i<k->a[i]?=some (Bv 32))(h:k+q<=a.length):Blank w' g c (k+q):=by
 refine⟨_,e,by rw[length_splice _ _ _ (by simpa using h)];exact d,λi l=>?_⟩;unfold splice;by_cases b:i<k
 ·rw[Cr sO,List.getElem?_take,Zp b];exact f i b
 have j:(List.take k a).length=k:=sO;rw[Di oM,j,Cr sO,List.getElem?_replicate,Zp oM]
def iF{W g k dLen dCap sLen sCap ad a xs}(b:W.heap[g]?=some (.cells a.toArray 5 (0,0)))(h:xs.length=Nat.min sLen dLen)(i:∀j v,xs[j]?=some v->W.cell? (ad.add j)=some v)(f:k+xs.length<=a.length)(c:∀v∈xs,v.oneCell'=true){B w0}(e:Below B w0 W)(d:B<=g) :
  ∃W',(Builtin.copy_ #[22,22] 3 #[Sl (Sm g k) dLen dCap,Sl (some ad) sLen sCap]).run prog W=.ok (Iv xs.length) W'/\W'.heap[g]?=some (.cells (splice a k xs).toArray 5 (0,0))/\Below B w0 W':=by
 refine⟨_,run_copy_row (P:=prog) W 22 22 3 5 g k dLen dCap ad sLen sCap a.toArray 5 xs underlying22 Tryz.size5 b h i (by simpa using f) c,?_,below_setRow e d _⟩;simpa[splice] using setRow_heap W g _ _ 5 _ b
def nT(gb c:Nat)w(F:w.cell? (Ad gb 0)=some (Bv 32))(G:c<=1048576) :
  Cs 152 #[Sl (Sm gb 0) 1 1,Iv c] w λe w'=>(∃g cap,e=Rt (Sl (Sm g 0) c cap)/\Tx w' g 0 c (λ_=>32))/\Bw w w':=by
 by_cases o:c=0
 ·subst o;go_enter func152,ntmps152;go_wp2;go_ret;exact⟨⟨_,_,rfl,λi t=>oM⟩,(wI w).alloc wF _⟩
 have d0:((c:Int)==0)=false:=by simp[o]
 have d1:decide ((c:Int)<0)=false:=sM;have y:1<=c:=oM;have ac:=cG F;obtain⟨cs,X,T,_⟩:=Lib.run_makeNoZero (P:=prog) w #[3] 22 5 underlying22 c oM;have aa:(callFunc 153 #[Iv c]).run prog w=.ok (.value (Sl (Sm w.heap.size 0) c cs.size)) ((w.alloc (Oc cs 5)).drewN 2):=by
  rw[run_callFunc_extern func153 rR rR rR (e:=Extern.BytealgMakeNoZero.makeNoZero #[3] #[22]) rR,X];rfl
 have i0:(0:Int)<=(c:Int):=oM;have i1:(c:Int)<=(cs.size:Int):=oM;have R:((w.alloc (Oc cs 5)).drewN 2).cell? (Ad gb 0)=some (Bv 32):=uv _ F;have W:((w.alloc (Oc cs 5)).drewN 2).heap[w.heap.size]?=some (.cells cs.toList.toArray 5 (0,0)):=by
  have:=Df w (Oc cs 5);simpa using this
 have Q:Bw w ((w.alloc (Oc cs 5)).drewN 2):=zB ((wI w).alloc wF _) 2;obtain⟨W2,ab,S,E⟩:=iF (k:=0) (dLen:=c) (dCap:=c) (sLen:=1) (sCap:=1) (ad:=(Ad gb 0)) (xs:=[Bv 32]) W (Nat.min_eq_left y).symm (λj v d=>by
  match j,d with
  |0,d=>simp at d;subst d;simpa[Addr.add] using R
  |j+1,d=>simp at d) sO (by simp[Value.oneCell']) Q wF
 have D:=nV S sO (by simpa using T);have C:Hid (∀(a q r:Nat) (wr:Wl),a<c->q<=a->r=Nat.min q (c-a)->Blank wr w.heap.size c a->Bw w wr->∃m,(Builtin.copy_ #[22,22] 3 #[Sl (Sm w.heap.size a) (c-a) (c-a),Sl (Sm w.heap.size 0) q c]).run prog wr=.ok (Iv r) m/\Blank m w.heap.size c (a+r)/\Bw w m):=by
  intro a q r wr h2 N x f n;have ae:r<=c-a:=by rw[x];exact Nat.min_le_right _ _
  have af:r<=a:=by rw[x];exact wN (Nat.min_le_left _ _) N
  obtain⟨L,H,I,J⟩:=f;obtain⟨m,r1,r2,s⟩:=iF (k:=a) (dLen:=c-a) (dCap:=c-a) (sLen:=q) (sCap:=c) (ad:=(Ad w.heap.size 0)) (xs:=List.replicate r (Bv 32)) H (by rw[Qe];exact x) (λj v d=>by
   rw[List.getElem?_replicate]at d;split at d
   ·cases d;have e:((Ad w.heap.size 0):Addr).add j=(Ad w.heap.size j):=by
     by_cases o:j=0
     ·subst o;simp[Addr.add]
     simp[Addr.add,o]
    rw[e];exact Blank.p ⟨L,H,I,J⟩ oM
   cases d) (by rw[Qe];omega) (by intro v Y;rw[List.eq_of_mem_replicate Y];rfl) n wF
  refine⟨m,by simpa using r1,nW r2 I J oM,s⟩
 by_cases h8:8192<c
 ·go_enter func152,ntmps152;go_wp2_with (first|(go_at_call 190;refine(iG c _ G).mono ?_;rintro e w' ⟨rfl,rfl⟩));go_loopw [10] (λb wr=>∃a:Nat,1<=a/\a<=c/\b=Iv a/\Blank wr w.heap.size c a/\Bw w wr) (λb _=>c-(intOf b).toNat)
  ·exact⟨1,wF,y,rfl,D,E⟩
  obtain⟨a,p1,p2,rfl,f,n⟩:=hrel;by_cases z:a<c
  ·obtain⟨q,h⟩:∃q,q=Nat.min a 8192:=⟨_,rfl⟩;have A:q<=a:=(by rw[h];exact Nat.min_le_left _ _);have B:1<=q:=(by rw[h];exact Nat.le_min.2 ⟨p1,oM⟩);have Z:min (a:Int) 8192=(q:Int):=by
    have:q=min a 8192:=h;omega
   obtain⟨r,l⟩:∃r,r=Nat.min q (c-a):=⟨_,rfl⟩;obtain⟨m,r1,r2,s⟩:=C a q r wr.drew z A l f n.drew;have U:1<=r:=(by rw[l];exact Nat.le_min.2 ⟨B,oM⟩);have V:r<=c-a:=(by rw[l];exact Nat.min_le_right _ _);have u:Hid _:=r2;clear r2 f h l;have O:(a:Int)<c:=oM;go_wp2;go_region;go_wp2;go_roundw
   ·exact⟨a+r,oM,oM,by go_num,u,s⟩
   simp[intOf];omega
  obtain rfl:a=c:=oM;go_wp2;go_ret;exact⟨⟨_,_,rfl,λi t=>by rw[zL];exact f.p t⟩,n⟩
 go_enter func152,ntmps152;go_wp2_with (first|(go_at_call 190;refine(iG c _ G).mono ?_;rintro e w' ⟨rfl,rfl⟩));go_loopw [10] (λb wr=>∃a:Nat,1<=a/\a<=c/\b=Iv a/\Blank wr w.heap.size c a/\Bw w wr) (λb _=>c-(intOf b).toNat)
 ·exact⟨1,wF,y,rfl,D,E⟩
 obtain⟨a,p1,p2,rfl,f,n⟩:=hrel;by_cases z:a<c
 ·obtain⟨q,h⟩:∃q,q=Nat.min a c:=⟨_,rfl⟩;have A:q<=a:=by rw[h];exact Nat.min_le_left _ _
  have B:1<=q:=by rw[h];exact Nat.le_min.2 ⟨p1,oM⟩
  have Z:min (a:Int) (c:Int)=(q:Int):=by
   have:q=min a c:=h;omega
  obtain⟨r,l⟩:∃r,r=Nat.min q (c-a):=⟨_,rfl⟩;obtain⟨m,r1,r2,s⟩:=C a q r wr.drew z A l f n.drew;have U:1<=r:=by rw[l];exact Nat.le_min.2 ⟨B,oM⟩
  have V:r<=c-a:=by rw[l];exact Nat.min_le_right _ _
  have u:Hid _:=r2;clear r2 f h l;have O:(a:Int)<c:=oM;go_wp2;go_region;go_wp2;go_roundw
  ·exact⟨a+r,oM,oM,by go_num,u,s⟩
  simp[intOf];omega
 obtain rfl:a=c:=oM;go_wp2;go_ret;exact⟨⟨_,_,rfl,λi t=>by rw[zL];exact f.p t⟩,n⟩
end V
end Go.Proofs.YtoihadcablknpaaGreatDoor
