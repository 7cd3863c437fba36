import Derived.Test.YtmlblamikgkdcaaGreatT03
import Derived.Deep.DeepCutAuto
import Derived.Deep.RegionHeld3
import Derived.Deep.WholeRow
set_option linter.unusedVariables false
set_option linter.unusedSimpArgs false
set_option linter.defProp false
set_option maxHeartbeats 40000000
set_option maxRecDepth 100000
namespace Go.Proofs.YtmlblamikgkdcaaGreat
open Go.RowKit
open Go.Proofs.Tryz
open M (OpD ug Gr)
structure NS where
 a:Nat
 b:Nat
 c:Nat
 d:Nat
def NS.w(s:NS)(i:Nat):Nat:=if i=0 then s.a else if i=1 then s.b else if i=2 then s.c else if i=3 then s.d else 0
structure NS.OK(s:NS):Prop where
 a:s.a<18446744073709551616
 b:s.b<18446744073709551616
 c:s.c<18446744073709551616
 d:s.d<18446744073709551616
def nz:NS:=⟨0,0,0,0⟩
instance:Inhabited NS:=⟨nz⟩
def NS.j(s:NS)(p:Nat):Bool:=(s.w (p / 64)).testBit (p%64)
def NS.n(s:NS)(p:Nat):NS :=
 ⟨if p / 64=0 then s.a ||| 2 ^ (p%64) else s.a,if p / 64=1 then s.b ||| 2 ^ (p%64) else s.b,if p / 64=2 then s.c ||| 2 ^ (p%64) else s.c,if p / 64=3 then s.d ||| 2 ^ (p%64) else s.d⟩
def NS.e(s t:NS):NS:=⟨s.a ||| t.a,s.b ||| t.b,s.c ||| t.c,s.d ||| t.d⟩
def Hk(s:NS):Vl:=.agg #[Uv s.a,Uv s.b,Uv s.c,Uv s.d]
def NS.OK.f:nz.OK:=⟨dC,dC,dC,dC⟩
def Qf{x y}(a:x<18446744073709551616)(b:y<18446744073709551616):x ||| y<18446744073709551616:=Nat.or_lt_two_pow (n:=64) a b
def VX{r}(h:r<64):2 ^ r<18446744073709551616:=Nat.pow_lt_pow_right (n:=64) dC h
def NS.OK.n{s:NS}(h:s.OK)(p:Nat):(s.n p).OK:=by
 have e:2 ^ (p%64)<18446744073709551616:=VX (If _ dC);refine⟨?_,?_,?_,?_⟩<;>(simp only[NS.n];split)
 .exact Qf h.a e
 .exact h.a
 .exact Qf h.b e
 .exact h.b
 .exact Qf h.c e
 .exact h.c
 .exact Qf h.d e
 exact h.d
def NS.OK.e{s t:NS}(h:s.OK)(k:t.OK):(s.e t).OK:=⟨Qf h.a k.a,Qf h.b k.b,Qf h.c k.c,Qf h.d k.d⟩
def IU{p}(h:p<256):p / 64=0\/p / 64=1\/p / 64=2\/p / 64=3:=oM
def Sf p:nz.j p=false:=by
 unfold NS.j NS.w;split
 .simp[nz]
 split
 .simp[nz]
 split
 .simp[nz]
 split<;>simp[nz]
def usN r k:(2 ^ r).testBit k=(r==k):=by
 rw[Nat.testBit_two_pow];by_cases h:r=k<;>simp[h]
def AV{s:NS}{p q:Nat}(g:p<256)(f:q<256):(s.n p).j q=(s.j q||q==p):=by
 unfold NS.j NS.w NS.n;have b:∀x:Nat,(x ||| 2 ^ (p%64)).testBit (q%64)=(x.testBit (q%64)||(p%64==q%64)):=λx=>by
  rw[Nat.testBit_or,usN]
 have c:p / 64=q / 64->(p%64==q%64)=(q==p):=λe=>by
  by_cases h:p%64=q%64
  .have:q=p:=oM;rw[this];simp
  have:¬q=p:=λd=>h (by rw[d]);rw[Ra.2 h,Ra.2 this]
 have a:p / 64≠q / 64->(q==p)=false:=λe=>by
  have:¬q=p:=λd=>e (by rw[d]);simp[this]
 rcases IU f with h|h|h|h
 .simp only[h,Zp];by_cases e:p / 64=0
  .rw[Zp e,b,c oM]
  rw[Zn e,a oM,Qx]
 .simp only[h];by_cases e:p / 64=1
  .simp[e,b,c oM]
  simp[e,a oM]
 .simp only[h];by_cases e:p / 64=2
  .simp[e,b,c oM]
  simp[e,a oM]
 simp only[h];by_cases e:p / 64=3
 .simp[e,b,c oM]
 simp[e,a oM]
def IV(s t:NS)(q:Nat):(s.e t).j q=(s.j q||t.j q):=by
 unfold NS.j NS.w NS.e;split
 .simp
 split
 .simp
 split
 .simp
 split<;>simp
def AW{x r:Nat}(c:x<18446744073709551616):(bits .and .u64 ((x:Int) / 2 ^ r) 1==1)=x.testBit r:=by
 have e:(x:Int) / 2 ^ r=((x / 2 ^ r:Nat):Int):=sM;have b:x / 2 ^ r<18446744073709551616:=Nat.lt_of_le_of_lt (Nat.div_le_self _ _) c;have a:=u64_and_nat (x / 2 ^ r) 1 b dC;rw[e,show(1:Int)=((1:Nat):Int) from rfl,a,nat_mask1,Nat.testBit_eq_decide_div_mod_eq];by_cases h:x / 2 ^ r%2=1
 .simp[h]
 have:x / 2 ^ r%2=0:=oM;simp[this]
def VY s(p:Nat)w(f:s.OK)(g:p<256) :
  Cs 102 #[Hk s,Iv p] w λe w'=>e=Rt (.bool (s.j p))/\w'=w.alloc (Oc #[Uv s.a,Uv s.b,Uv s.c,Uv s.d] 91):=by
 unfold Hk;have i:(p:Int).tdiv 64=((p / 64:Nat):Int):=by simp[Int.tdiv_eq_ediv]
 have k:(p:Int).tmod 64=((p%64:Nat):Int):=by simp[Int.tmod_eq_emod]
 have l:p%64<64:=If _ dC;rcases IU g with h|h|h|h;all_goals (
  rw[h]at i;go_enter func102,ntmps102;go_wp2;go_ret;refine⟨xR ?_,rfl⟩;unfold NS.j NS.w;rw[h];first
   |exact AW f.a
   |exact AW f.b
   |exact AW f.c
   |exact AW f.d)
def AX{x r:Nat}(c:x<18446744073709551616)(h:r<64):bits .or .u64 (x:Int) (IntKind.u64.wrap (2 ^ r))=((x ||| 2 ^ r:Nat):Int):=by
 have b:=VX h;have e:(2:Int) ^ r=((2 ^ r:Nat):Int):=sM;have a:IntKind.u64.wrap (2 ^ r)=((2 ^ r:Nat):Int):=by
  rw[e];generalize 2 ^ r=x at *;simp[IntKind.wrap,IntKind.bits,IntKind.signed];omega
 rw[a];exact u64_or_nat x (2 ^ r) c b
def uvw{a b c d:Int}{s:NS}(e:a=s.a)(f:b=s.b)(g:c=s.c)(h:d=s.d):Rt (.agg #[Uv a,Uv b,Uv c,Uv d])=Rt (.agg #[Uv s.a,Uv s.b,Uv s.c,Uv s.d]):=by
 rw[e,f,g,h]
def uqe s(p:Nat)w(g:s.OK)(i:p<256) :
  Cs 103 #[Hk s,Iv p] w λe w'=>e=Rt (Hk (s.n p))/\Bw w w':=by
 unfold Hk;have j:(p:Int).tdiv 64=((p / 64:Nat):Int):=by simp[Int.tdiv_eq_ediv]
 have k:(p:Int).tmod 64=((p%64:Nat):Int):=by simp[Int.tmod_eq_emod]
 have f:p%64<64:=If _ dC;rcases IU i with h|h|h|h;all_goals (
  rw[h]at j;go_enter func103,ntmps103;go_wp2;go_region;go_wp2;refine zL (by simp[results,f103,go_sem];rfl) rfl ?_;refine⟨uvw ?_ ?_ ?_ ?_,(Bm w).drew⟩;all_goals (
   simp only[NS.n,h];first
    |rfl
    |exact AX g.a f
    |exact AX g.b f
    |exact AX g.c f
    |exact AX g.d f))
def part(s t:NS)(k:Nat):NS:=⟨if 0<k then s.a ||| t.a else s.a,if 1<k then s.b ||| t.b else s.b,if 2<k then s.c ||| t.c else s.c,if 3<k then s.d ||| t.d else s.d⟩
def Ax(s:NS):Obj:=.cells #[Uv s.a,Uv s.b,Uv s.c,Uv s.d] 91
def uvx(w:Wl)(s t:NS)(i:Vl)(wr:Wl):Prop :=
 ∃k:Nat,k<=4/\i=Iv (k:Int)/\wr=((w.alloc (Ax (part s t k))).alloc (Ax t)).alloc (Ax nz)
def uw5 s t:part s t 0=s:=rfl
def VZ s t:part s t 1=⟨s.a ||| t.a,s.b,s.c,s.d⟩:=rfl
def WA s t:part s t 2=⟨s.a ||| t.a,s.b ||| t.b,s.c,s.d⟩:=rfl
def WB s t:part s t 3=⟨s.a ||| t.a,s.b ||| t.b,s.c ||| t.c,s.d⟩:=rfl
def WC s t:part s t 4=⟨s.a ||| t.a,s.b ||| t.b,s.c ||| t.c,s.d ||| t.d⟩:=rfl
def WD s t w(j:s.OK)(l:t.OK) :
  Cs 104 #[Hk s,Hk t] w λe w'=>e=Rt (Hk (s.e t))/\Bw w w':=by
 obtain⟨a,b,c,d⟩:=s;obtain⟨f,g,c',h⟩:=t;have u:=u64_or_nat _ _ j.a l.a;have v:=u64_or_nat _ _ j.b l.b;have x:=u64_or_nat _ _ j.c l.c;have y:=u64_or_nat _ _ j.d l.d;have o:∀w:Wl,(Instr.index 91 (.agg #[Uv f,Uv g,Uv c',Uv h]) (Iv 0)).run prog w=.ok (Uv f) w:=λ_=>by kernel_rfl
 have p:∀w:Wl,(Instr.index 91 (.agg #[Uv f,Uv g,Uv c',Uv h]) (Iv 1)).run prog w=.ok (Uv g) w:=λ_=>by kernel_rfl
 have q:∀w:Wl,(Instr.index 91 (.agg #[Uv f,Uv g,Uv c',Uv h]) (Iv 2)).run prog w=.ok (Uv c') w:=λ_=>by kernel_rfl
 have r:∀w:Wl,(Instr.index 91 (.agg #[Uv f,Uv g,Uv c',Uv h]) (Iv 3)).run prog w=.ok (Uv h) w:=λ_=>by kernel_rfl
 simp only[Hk,NS.e];go_enter func104,ntmps104;go_wp2;go_loopw [8] (λi wr=>uvx w ⟨a,b,c,d⟩ ⟨f,g,c',h⟩ i wr) (λi _=>4-(intOf i).toNat)
 .exact⟨0,oM,rfl,rfl⟩
 obtain⟨k,n,rfl,rfl⟩:=hrel;have m:k=0\/k=1\/k=2\/k=3\/k=4:=oM;rcases m with rfl|rfl|rfl|rfl|rfl
 .simp only[Ax,uw5,nz];go_wp2;go_roundw
  .exact⟨1,oM,rfl,by simp only[Ax,VZ,nz];rfl⟩
  simp[intOf]
 .simp only[Ax,VZ,nz];go_wp2;go_roundw
  .exact⟨2,oM,rfl,by simp only[Ax,WA,nz];rfl⟩
  simp[intOf]
 .simp only[Ax,WA,nz];go_wp2;go_roundw
  .exact⟨3,oM,rfl,by simp only[Ax,WB,nz];rfl⟩
  simp[intOf]
 .simp only[Ax,WB,nz];go_wp2;go_roundw
  .exact⟨4,oM,rfl,by simp only[Ax,WC,nz];rfl⟩
  simp[intOf]
 simp only[Ax,WC,nz];go_wp2;refine zL (by simp[results,f104,go_sem];rfl) rfl ?_;exact⟨rfl,Lk w _ _ _⟩
def xG ra la sa nr rc d lc sc o w(g:0<=o.f)(h:o.f<=1048576)(i:nr<=1048576) :
  Cs 101 #[.agg #[Sl ra nr rc,Sl la d lc],.agg #[Iv o.e,Sl sa o.sl sc,Iv o.f]] w λe w'=>e=Rt (Iv (M.tg nr o:Nat))/\Bw w w':=by
 by_cases a:o.e=3
 .have c:(o.e==3)=true:=by simp[a]
  have b:=ua a;clear a;go_enter func101,ntmps101;go_wp2;go_ret;exact⟨vk (by unfold M.tg;rw[Zp b.o];omega),Bm w⟩
 have c:(o.e==3)=false:=by simp[a]
 have b:=ua a;clear a;go_enter func101,ntmps101;go_wp2;go_ret;exact⟨vk (by unfold M.tg;rw[Zn b.o];omega),Bm w⟩
def AT(s:NS)(p:Nat)(w:Wl)(g:s.OK)(f:p<256) :
  Cs 103 #[.agg #[Uv s.a,Uv s.b,Uv s.c,Uv s.d],Iv p] w λe w'=>(∃t,t=s.n p/\e=Rt (.agg #[Uv t.a,Uv t.b,Uv t.c,Uv t.d]))/\Bw w w' :=
 (uqe s p w g f).mono (λe w' h=>⟨⟨_,rfl,h.1⟩,h.2⟩)
def VP(s t:NS)(w:Wl)(f:s.OK)(g:t.OK) :
  Cs 104 #[.agg #[Uv s.a,Uv s.b,Uv s.c,Uv s.d],.agg #[Uv t.a,Uv t.b,Uv t.c,Uv t.d]] w λe w'=>(∃u,u=s.e t/\e=Rt (.agg #[Uv u.a,Uv u.b,Uv u.c,Uv u.d]))/\Bw w w' :=
 (WD s t w f g).mono (λe w' h=>⟨⟨_,rfl,h.1⟩,h.2⟩)
def IQ{nr b o}(h:M.bB nr b o)(c:M.bE o):M.tg nr o<nr+b:=by
 obtain⟨_,_,_,_,d,a⟩:=h;unfold M.tg;unfold M.bF at a;rcases c with e|e
 .rw[Zn oM];rw[Zn oM,Zp e]at a;omega
 rw[Zp e];rw[Zp e]at a;omega
def At(w:Wl)(b:Nat)(s:NS):Prop:=w.heap[b]?=some (Ax s)
def At.b{w b s}(h:At w b s):w.cell? (Ad b 0)=some (Uv s.a)/\w.cell? (Ad b 1)=some (Uv s.b)/\w.cell? (Ad b 2)=some (Uv s.c)/\w.cell? (Ad b 3)=some (Uv s.d):=by
 unfold At at h;simp[World.cell?,h,Ax]
def At.r{w b s}(h:At w b s):w.frozen? (Ad b 0)=false/\w.frozen? (Ad b 1)=false/\w.frozen? (Ad b 2)=false/\w.frozen? (Ad b 3)=false:=by
 unfold At at h;simp[World.frozen?,h,Ax]
def At.lt{w b s}(h:At w b s):b<w.heap.size:=(Gw.1 h).1
def At.a(w:Wl)(s:NS):At (w.alloc (Ax s)) w.heap.size s:=Eo w (Ax s)
def At.h{w w' b s}(h:At w b s)(k:Bw w w'):At w' b s:=(k.block b h.lt).trans h
def At.y{w w' b s}(h:At w b s)(k:w'.heap[b]?=w.heap[b]?):At w' b s:=k.trans h
def Il(w:Wl)(b:Nat)(s:NS):Wl:=(((w.setCell (Ad b 0) (Uv s.a)).setCell (Ad b 1) (Uv s.b)).setCell (Ad b 2) (Uv s.c)).setCell (Ad b 3) (Uv s.d)
def AS{w:Wl}{b:Nat}{cs:Av}{t:TypeId}(h:w.heap[b]?=some (Oc cs t))(o:Nat)(v:Vl):(w.setCell (Ad b o) v).heap[b]?=some (Oc (cs.setIfInBounds o v) t):=by
 have a:=(Gw.1 h).1;simp[World.setCell,Vf,h]
def At.set{w b s}(h:At w b s)t:At (Il w b t) b t :=
 AS (AS (AS (AS h 0 (Uv t.a)) 1 (Uv t.b)) 2 (Uv t.c)) 3 (Uv t.d)
def unN w b s:(Il w b s).heap.size=w.heap.size:=by simp[Il,World.setCell]
def IR w b s k(h:k≠b):(Il w b s).heap[k]?=w.heap[k]?:=by
 unfold Il;rw[Gz k (λe=>h e),Gz k (λe=>h e),Gz k (λe=>h e),Gz k (λe=>h e)]
def kT{B w w'}(h:Below B w w')b s(c:B<=b):Below B w (Il w' b s) :=
 ⟨h.os,h.tape,h.output,by rw[unN];exact h.size,λk a=>(IR w' b s k oM).trans (h.block k a)⟩
structure Fs where
 g:Bool
 f:NS
 e:Bool
instance:Inhabited Fs:=⟨⟨false,nz,false⟩⟩
def Jf(x:Fs):Vl:=.agg #[.bool x.g,Uv x.f.a,Uv x.f.b,Uv x.f.c,Uv x.f.d,.bool x.e]
def Ll(x:Fs):List Value:=[.bool x.g,Uv x.f.a,Uv x.f.b,Uv x.f.c,Uv x.f.d,.bool x.e]
def uJ(nr:Nat)(mk:NS)(o:OpD)(x y:Fs):Fs :=
 if o.e=0 then ⟨true,nz,false⟩ else if M.bE o then ⟨mk.j (M.tg nr o),nz.n (M.tg nr o),false⟩
 else if o.e=4 then ⟨x.g&&y.g,if x.g then x.f.e y.f else x.f,x.e||y.e⟩
 else if o.e=5 then ⟨x.g||y.g,x.f.e y.f,x.e||y.e⟩
 else if o.e=6 then ⟨true,x.f,x.g||x.e⟩
 else if o.e=7 then ⟨true,x.f,x.e⟩
 else ⟨false,nz,false⟩
structure Ez(w:Wl)(b o:Nat)(x:Fs):Prop where
 g:w.cell? (Ad b o)=some (.bool x.g)
 wa:w.cell? (Ad b (o+1))=some (Uv x.f.a)
 wb:w.cell? (Ad b (o+2))=some (Uv x.f.b)
 wc:w.cell? (Ad b (o+3))=some (Uv x.f.c)
 wd:w.cell? (Ad b (o+4))=some (Uv x.f.d)
 e:w.cell? (Ad b (o+5))=some (.bool x.e)
def Ez.h{w w' b o x}(h:Ez w b o x)(k:Bw w w'):Ez w' b o x :=
 ⟨ue h.g k,ue h.wa k,ue h.wb k,ue h.wc k,ue h.wd k,ue h.e k⟩
structure Do(w:Wl)(gb mb:Nat)(ra la:Oa)(nr rc nb lc:Nat)(mk:NS):Prop where
 g0:w.cell? (Ad gb 0)=some (Sl ra nr rc)
 g1:w.cell? (Ad gb 1)=some (Sl la nb lc)
 m:At w mb mk
def Do.h{w w' a b ra la nr rc c lc mk}(h:Do w a b ra la nr rc c lc mk)(k:Bw w w'):Do w' a b ra la nr rc c lc mk :=
 ⟨ue h.g0 k,ue h.g1 k,h.m.h k⟩
def Lm(v:Fs)(w:Wl)(e:Ending)(w':Wl):Prop:=e=Rt (Jf v)/\Bw w w'
def kC{Q w a b n c cs}(h:zB Q w (Sl a n c) b n cs):n<=c:=by
 rcases h with⟨e,d,_⟩|⟨g,cap,e,l,f,i,j,k⟩
 .omega
 injection e with _ _ e3;omega
def IZ{α:Type}(f:α->List Value)(k:Nat)(h:∀x,(f x).length=k):∀(l:List α) (j:Nat),(l.take j).flatMap f=(l.flatMap f).take (j*k)
 |[],j=>by simp
 |x::l,0=>by simp
 |x::l,j+1=>by
  rw[List.take_succ_cons,Eu,Eu,IZ f k h l j,List.take_append,h x,show(j+1)*k-k=j*k by rw[Hp];omega,Kg (l:=f x) (by rw[h x,Hp];omega)]
def ja{Q w a b n c cs}(h:zB Q w (Sl a n c) b n cs){j}(p:j<=n):zB Q w (Sl a j c) b j (cs.take (j*b)):=by
 rcases h with⟨e,d,f⟩|⟨g,cap,e,q,k,r,l,m⟩
 .obtain rfl:j=0:=oM;subst d;exact .inl ⟨e,rfl,by rw[f];simp⟩
 obtain⟨rfl,rfl⟩:a=some (Ad g 0)/\c=cap:=by injection e with d f e3;exact⟨d,e3⟩
 have s:j*b<=n*b:=Kz _ p;refine .inr ⟨g,c,rfl,q,by rw[Fw,k];omega,oM,λi o=>?_,m⟩;rw[Fw]at o;rw[l i oM,List.getElem?_take_of_lt oM]
section
variable {α:Type} {f:α->List Value} {sz:Nat} {R:Wl->(Np)->α->Prop} {w wr W1 W5:Wl} {v v5:Vl} {l:List α} {x:α} {P:Np}
structure Ue(f:α->List Value)(sz:Nat)(R:Wl->(Np)->α->Prop)(w wr:Wl)(v:Vl)(l:List α)(P:Np):Prop where
 k:zB P wr v sz l.length (l.flatMap f)
 a:∀b,P b->zF w wr b
 nm:∀x∈l,R wr P x
 y:Kf w wr
def Ii(f:α->List Value)(a:Nat)(R:Wl->(Np)->α->Prop)(w wr:Wl)(v:Vl)(l:List α):Prop:=∃P,Ue f a R w wr v l P
def Ii.nil(h:Kf w wr):Ii f sz R w wr nS [] :=
 ⟨λ_=>False,.inl ⟨rfl,rfl,rfl⟩,λ_ q=>q.elim,(λx a=>by cases a),h⟩
def Ii.a(h:Ii f sz R w wr v l):∃a c,v=Sl a l.length c:=let⟨_,h⟩:=h;uj h.k
def Ii.y(h:Ii f sz R w wr v l):Kf w wr:=let⟨_,h⟩:=h;h.y
def Ue.d(h:Ue f sz R w wr v l P)(o:0<sz)(k:Kf wr W1)(i:zB (λb=>P b\/W1.heap.size<=b) W5 v5 sz (l.length+1) (l.flatMap f++f x))(g:zT P W1 W5)
  (j:∀y,R wr P y->R W5 (λb=>(P b\/W1.heap.size<=b)/\b<W5.heap.size) y) (m:R W5 (λb=>(P b\/W1.heap.size<=b)/\b<W5.heap.size) x):Ii f sz R w W5 v5 (l++[x]):=by
 have p:=h.y.l;have r:=k.l;refine⟨λb=>(P b\/W1.heap.size<=b)/\b<W5.heap.size,?_,?_,?_,yQ (h.y.c k) g (λb q=>(h.a b q).1)⟩
 .rw[show(l++[x]).flatMap f=l.flatMap f++f x by simp,zJ,Dd];exact i.a (Pi oM o) (λb q h=>⟨q,h⟩)
 .rintro b ⟨q|q,e⟩
  .exact⟨(h.a b q).1,e⟩
  exact⟨oM,e⟩
 intro y n;rcases By.1 n with q|q
 .exact j y (h.nm y q)
 obtain rfl:=Bu.1 q;exact m
end
def uF{P:Program}{ops:Array Oper}{o:Oper}{a:Act}{w:Wl}{K:Act->World->Prop}{c:Exit->Act->World->Prop}{E:Prop}{f:FuncId}(d:∀args w,(callFunc f args).run P w=.ok (.enter f args) w)(g:o.guard=none)(b:Array Operand)(m:Array TypeId)
  (j:o.op=.call { callee:=.value (.func f),args:=b,argTypes:=m }) {ys:Av} (l:b.map a.eval=ys) (h:Calls P f ys w (λe w'=>∃u,e=Rt u/\K (a.put o.dst u) w')):if Region.wanted o (yielded ops a.tmps)=true then Oper.wp P o a w K c else E:=by
 rw[Zp (by simp[Region.wanted,g])];have k:(execOp a.eval o).run P w=.ok (.enter f ys) w:=by
  have e:a.eval (.func f)=.func (.func f) #[] #[]:=rfl;unfold execOp;simp only[j,resolve,invoke,Deferred.ofValue,Nl,Nm,Pf,l,e,Array.empty_append,Array.append_empty];exact d ys w
 unfold Oper.wp;rw[k];refine Calls.mono h ?_;rintro e w' ⟨u,rfl,i⟩;exact i
open M (uw)
def XB(X:Np)(w wc:Wl)(b:Nat):Prop:=(X b/\b<w.heap.size)\/(w.heap.size+2<=b/\b<wc.heap.size)
section
open M (OpD ug Gr uw)
def Ji(e:Cm):List Value:=[Iv e.e,Iv e.f,Iv e.c]
def vb(l:List Cm):List Value:=l.flatMap Ji
def ujk l e:vb (l++[e])=vb l++Ji e:=by simp[vb]
def ujl l j:vb (l.take j)=(vb l).take (j*3):=IZ Ji 3 (λ_=>rfl) l j
structure Xq(K L X:Np)(w:Wl)(s:zC)(ka:Oa)(kc:Nat)(la:Oa)(lc:Nat)(xa:Oa)(xn:Nat):Prop where
 st:zB K w (Sl ka s.st.length kc) 4 s.st.length (xe s.st)
 a:zB L w (Sl la s.a.length lc) 3 s.a.length (vb s.a)
 ex:Fm X w xa xn s.t
 lt:∀b,K b\/L b\/X b->b<w.heap.size
 kl:∀b,K b->¬L b
 kx:∀b,K b->¬X b
 lx:∀b,L b->¬X b
def Xq.on{K L X w w' s d e la lc f g}(h:Xq K L X w s d e la lc f g)(k:∀b,K b\/L b\/X b->w'.heap[b]?=w.heap[b]?)(i:w.heap.size<=w'.heap.size):Xq K L X w' s d e la lc f g :=
 ⟨h.st.on (λb c=>k b (.inl c)),h.a.on (λb c=>k b (.inr (.inl c))),h.ex.on (λb c=>k b (.inr (.inr c))),λb c=>Ba (h.lt b c) i,h.kl,h.kx,h.lx⟩
structure Ct(P:Np)(w w':Wl):Prop where
 os:w'.os=w.os
 g:w'.tape=w.tape
 f:w'.output=w.output
 l:w'.heap.size=w.heap.size
 d:∀b,¬P b->w'.heap[b]?=w.heap[b]?
def Ct.e P w:Ct P w w:=⟨rfl,rfl,rfl,rfl,λ_ _=>rfl⟩
def Ct.set{P w w'}(h:Ct P w w')b o v(c:P b):Ct P w (w'.setCell (Ad b o) v) :=
 ⟨h.os,h.g,h.f,by rw[uh];exact h.l,λx a=>(Gz x (λe=>a (by simp at e;rw[e];exact c))).trans (h.d x a)⟩
def uxO{s:zC}{k:Int}(h:s.v k=true):∃m f,s.st.length=m+1/\s.st[m]?=some f/\s.st.getLast? = some f/\f.e=k:=by
 unfold zC.v at h;cases a:s.st.getLast? with
 |none=>rw[a]at h;cases h
 |some f =>
  rw[a]at h;have c:s.st.length≠0:=λe=>by rw[Ic e]at a;cases a
  obtain⟨m,b⟩:∃m,s.st.length=m+1:=⟨s.st.length-1,oM⟩;refine⟨m,f,b,?_,rfl,by simpa using h⟩;rw[List.getLast?_eq_getElem?,b]at a;simpa using a
def uvU:(prog.info? 165).map (λi=>(i.zero,i.size,i.bytes))=some (some (.agg #[Iv 0,Iv 0,Iv 0]),3,24):=rR
def BL:vJ 42 165 3 24:=⟨underlying42,⟨_,uvU,rfl⟩,oM⟩
def uvV(w:Wl)(k a p:Int)(y:Nat)(b:w.heap.size=y):Src prog 3 42 (Sl (Sm y 0) 1 1) 1 (Ji ⟨k,a,p⟩) (w.alloc (Oc #[Iv k,Iv a,Iv p] 165)):=by
 subst b;exact qg underlying42 rfl rfl rfl
section
variable {K L X:Np} {w W W' Z:Wl} {s t:zC} {ka la xa:Oa} {kc lc xn xc n ln:Nat} {e:Ending}
end
end
def uk6{mO:Int}{s:zC}(x:uw)(il:Nat)(I:Nat->Int):(s.q x il I mO).d<=s.d+1:=by
 have g:∀s:zC,s.h.d=s.d:=λs=>by unfold zC.h;split<;>rfl
 have i:∀(s:zC) f,(s.m f mO).d=s.d:=λs f=>by unfold zC.m;split<;>rfl
 have j:∀(s:zC) n S,(s.k n S).d=s.d:=λs n S=>by unfold zC.k;split<;>(try split)<;>rfl
 have e:∀(c:Prop) [Decidable c] (a b:zC),a.d<=s.d+1->b.d<=s.d+1->(if c then a else b).d<=s.d+1:=λc _ a b l o=>by split<;>assumption
 unfold zC.q zC.w zC.y zC.x;repeat' (refine e _ _ _ ?_ ?_)
 all_goals first|exact Gx _|exact zD|(rw[i];exact Gx _)|(rw[i];exact zD)|(rw[g];exact Gx _)|(rw[g];refine e _ _ _ ?_ ?_;exact Gx _;rw[j];exact Gx _)
structure JU(n:Nat)(R:Nat->uw)(fU mO:Int):Prop where
 f0:0<=fU
 f1:fU<=50000
 m0:0<=mO
 m1:mO<=1000
 m:∀i,i<n->(R i).sl<=512
def s0:zC:=⟨0,0,[],[],0,λ_=>false,0,0,false,0,0⟩
def RunIs(o:ZA)(w:Wl)(e:Ending)(w':Wl):Prop:=∃a b c d,e=Rt (uym o a b c d)/\Bw w w'
def YV(s:zC)(g:Oa)(h:Nat)(la:Oa)(lc:Nat)(j:Oa)(k xc:Nat):Array Value:=#[Iv s.f,Iv (s.c:Int),Sl g s.st.length h,Sl la s.a.length lc,Iv (s.i:Int),Sl j k xc,Iv (s.b:Int),Iv (s.d:Int),.bool s.e,Iv s.r,Iv s.s]
structure YW(w:Wl)(t:zC)(n:Nat)(R:Nat->uw)(il:Nat)(I:Nat->Int)(fU mO:Int)(s:zC)(wr:Wl)(ka:Oa)(kc:Nat)(la:Oa)(lc:Nat)(xa:Oa)(xn xc:Nat)(K L X:Np):Prop where
 e:wr.heap[w.heap.size+1]?=some (Oc (YV s ka kc la lc xa xn xc) 351)
 f:wr.heap[w.heap.size]?=some (Oc #[Iv 0,Iv 0,Iv 0,Iv 0,nS,Iv 0,Iv 0,nS] 44)
 a:Xq K L X wr s ka kc la lc xa xn
 lo:∀b,K b\/L b\/X b->w.heap.size+2<=b
 c:Good mO s
 st:(s.b:Int)<=fU
 thr:s.d<=s.b
 d:Ends n R il I fU mO s t
 q:Bw w wr
def ruI(w:Wl)(t:zC)(n:Nat)(R:Nat->uw)(il:Nat)(I:Nat->Int)(fU mO:Int)(wr:Wl):Prop :=
 ∃s a b la lc c d xc,∃K L X:Nat->Prop,YW w t n R il I fU mO s wr a b la lc c d xc K L X
def BM(wr:World)(b:Nat):Nat:=match wr.cell? (Ad b 6) with|some (.int _ z)=>z.toNat|_=>0
def BO(wr:World)(b:Nat):Nat:=match wr.cell? (Ad b 8) with|some (.bool true)=>0|_=>1
def YX{wr b}{k:Nat}(h:wr.cell? (Ad b 6)=some (Iv (k:Int))):BM wr b=k:=by unfold BM;rw[h];simp
def YY{wr b d}(h:wr.cell? (Ad b 8)=some (.bool d)):BO wr b=if d then 0 else 1:=by unfold BO;rw[h];cases d<;>rfl
def uxP{w t n R il I fU mO s s' wr Z W W' ka B la D xa F kc C lc E xn G xc J K L X r u v}(h:YW w t n R il I fU mO s wr ka kc la lc xa xn xc K L X)(z:s.e=false)(A:s.p n R il I fU mO=s')(m:Ct (λb=>b=w.heap.size+1) wr Z)(o:Kept (λb=>K b\/L b) Z W)(i:Ct (λb=>b=w.heap.size+1) W W')(S:Xq r u v W s' B C D E F G)(T:∀b,r b->K b\/zF Z W b)(U:∀b,u b->L b\/zF Z W b)(V:∀b,v b->X b\/zF Z W b)(y:W'.heap[w.heap.size+1]?=some (Oc (YV s' B C D E F G J) 351))(aa:s'.d<=s'.b) :
  ruI w t n R il I fU mO W'/\2*(fU.toNat-BM W' (w.heap.size+1))+BO W' (w.heap.size+1)<2*(fU.toNat-BM wr (w.heap.size+1))+BO wr (w.heap.size+1):=by
 have ae:=(Gw.1 h.e).1;have ad:=m.l;have ac:=o.l;have ab:=i.l;have H:∀b,b<=w.heap.size+1->¬(K b\/L b):=λb a q=>by
  have:=h.lo b (q.elim .inl (λq=>.inr (.inl q)));omega
 have lo':∀b,r b\/u b\/v b->w.heap.size+2<=b:=λb a=>by
  rcases a with a|a|a
  .rcases T b a with q|q
   .exact h.lo b (.inl q)
   have:=q.1;omega
  .rcases U b a with q|q
   .exact h.lo b (.inr (.inl q))
   have:=q.1;omega
  rcases V b a with q|q
  .exact h.lo b (.inr (.inr q))
  have:=q.1;omega
 have x:=qP (n:=n) (R:=R) (il:=il) (I:=I) (mO:=mO) z h.st;rw[A]at x;refine⟨⟨s',B,C,D,E,F,G,J,r,u,v,y,?_,S.on (λb a=>i.d b (λe=>oH (lo' b a))) oM,lo',A▸ZL h.c,x.1,aa,A▸h.d.p z,?_⟩,?_⟩
 .rw[i.d _ oM,o.d _ oM (H _ oM),m.d _ oM];exact h.f
 .have a:=h.q;exact⟨i.os.trans (o.os.trans (m.os.trans a.os)),i.g.trans (o.g.trans (m.g.trans a.tape)),i.f.trans (o.f.trans (m.f.trans a.output)),by have:=a.size;omega,λb Y=>(i.d b oM).trans ((o.d b oM (H b oM)).trans ((m.d b oM).trans (a.block b Y)))⟩
 have N:=YX (k:=s.b) (uN (j:=6) h.e rfl);have O:=YY (d:=s.e) (uN (j:=8) h.e rfl);have P:=YX (k:=s'.b) (uN (j:=6) y rfl);have Q:=YY (d:=s'.e) (uN (j:=8) y rfl);rw[N,O,P,Q,z];have hf:=h.st;rcases x.2 with⟨q1,q2⟩|q
 .rw[q1,q2];simp
 have:=x.1;rw[q];cases s'.e<;>simp<;>omega
def uyr(w:Wl)(b:Nat)(a c v2 v3 v4 v5 v6 v7 v8 e d:Vl):Wl:=(((((((((((w.setCell (Ad b 0) a).setCell (Ad b 1) c).setCell (Ad b 2) v2).setCell (Ad b 3) v3).setCell (Ad b 4) v4).setCell (Ad b 5) v5).setCell (Ad b 6) v6).setCell (Ad b 7) v7).setCell (Ad b 8) v8).setCell (Ad b 9) e).setCell (Ad b 10) d)
def zT.q{w w'}(h:zT (λ_=>False) w w'):Bw w w':=⟨h.os,h.g,h.f,h.l,λb a=>h.d b a (λe=>e)⟩
def uk9 l:∀u,u∈vb l->u.oneCell'=true:=λu b=>by
 let⟨e,_,a⟩:=Kj.1 b;simp[Ji]at a;rcases a with rfl|rfl|rfl<;>rfl
def utk{L w a c l}(h:zB L w (Sl a l.length c) 3 l.length (vb l)):Src prog 3 42 (Sl a l.length c) l.length (vb l) w:=by
 rcases h with⟨e,f,i⟩|⟨g,cap,e,p,k,n,m,o⟩
 .obtain rfl:a=none:=by injection e
  rw[f,i];exact Src.ofNil _ underlying42 c
 obtain rfl:a=some (Ad g 0):=by injection e
 refine Src.ofSlice (P:=prog) _ underlying42 (Ad g 0) _ c (vb l) k (λj u d=>?_) (uk9 l);have e':((Ad g 0):Addr).add j=(Ad g j):=by
  by_cases b:j=0
  .subst b;simp[Addr.add]
  simp[Addr.add,b]
 rw[e',m j (Bz.1 d).1];exact d
def ZD:∀(l:List Cm) (i j:Nat) (x:Cm),l[i]?=some x->j<3->(vb l)[i*3+j]?=(Ji x)[j]?
 |[],i,j,x,h,_=>by simp at h
 |y::l,0,j,x,h,hj=>by
  simp at h;subst h;show(Ji y++vb l)[0*3+j]?=_;rw[Es (by show 0*3+j<3;omega)];simp
 |y::l,i+1,j,x,h,hj=>by
  simp at h;show(Ji y++vb l)[(i+1)*3+j]?=_;have a:(Ji y).length=3:=rfl;rw[Fb (by rw[a];omega),a,show(i+1)*3+j-3=i*3+j by omega];exact ZD l i j x h hj
def ZE{Q w a c l}(h:zB Q w (Sl a l.length c) 3 l.length (vb l)):JV Q w a l.length (λi=>l.getD i ⟨0,0,0⟩):=by
 rcases h with⟨_,e,_⟩|⟨g,cap,e,m,q,p,f,n⟩
 .exact .inl e
 obtain rfl:a=some (Ad g 0):=by injection e
 refine .inr ⟨g,rfl,m,λj d=>(n j oM).2,λi k=>?_⟩;have o:l[i]?=some (l.getD i ⟨0,0,0⟩):=by rw[El,Bb k];rfl
 have b:∀j,j<3->w.cell? (Ad g (i*3+j))=(Ji (l.getD i ⟨0,0,0⟩))[j]?:=λj d=>by
  rw[f _ oM,ZD l i j _ o d]
 exact⟨b 0 oM,b 1 oM,b 2 oM⟩
def uqQ b:rg (λ_=>false) b = []:=by
 induction b with
 |zero=>rfl
 |succ b a=>rw[rg,a];rfl
def Jj:(rg s0.t 256).length=0:=by
 show(rg (λ_=>false) 256).length=0;rw[uqQ];rfl
def ulb z x{k}(h:k<z.length):lf (z++[x]) k=lf z k:=by
 unfold lf;rw[El,El,Es h]
def ulc z x:lf (z++[x]) z.length=x:=by
 unfold lf;rw[El,Fb (zD)];simp
def cl(M:Nat->Bool):Nat->List Int
 |0=>[]
 |b+1=>if M b=true then (if b≠0/\M (b-1)=true then (cl M b).dropLast++[(b:Int)] else cl M b++[(b:Int),(b:Int)]) else cl M b
def JZ M:∀b,(b≠0/\M (b-1)=true->(cl M b).getLast? = some ((b:Int)-1))/\∀x,(cl M b).getLast? = some x->x<=(b:Int)-1/\(¬(b≠0/\M (b-1)=true)->x<(b:Int)-1)
 |0=>⟨λh=>absurd rfl h.1,λx h=>by simp[cl]at h⟩
 |b+1=>by
  let⟨f,d⟩:=JZ M b;cases a:M b with
  |false =>
   have e:cl M (b+1)=cl M b:=(by rw[cl,a];simp);rw[e];refine⟨λh=>?_,λx c=>?_⟩
   .have:=h.2;rw[Nj,a]at this;cases this
   have:=(d x c).1;exact⟨oM,λ_=>oM⟩
  |true =>
   have e:(cl M (b+1)).getLast? = some ((b:Int)):=by
    rw[cl,a];simp only[if_true];split
    .simp
    simp
   rw[e];refine⟨λ_=>by congr 1;omega,λx c=>?_⟩;cases c;exact⟨oM,λh=>aB ⟨oM,by rw[Nj];exact a⟩ h⟩
def ZP M:∀b,b<=256->rg M b=if b≠0/\M (b-1)=true/\b≠256/\M b=true then (cl M b).dropLast else cl M b
 |0,_=>by simp[rg,cl]
 |b+1,hb=>by
  have h:=ZP M b oM;have e:cl M (b+1)=(if M b=true then (if b≠0/\M (b-1)=true then (cl M b).dropLast++[(b:Int)] else cl M b++[(b:Int),(b:Int)]) else cl M b):=rfl;rw[ZF M b,h,e];generalize cl M b=L;have f:b≠256:=oM;cases a:M b with
  |false=>simp[a]
  |true =>
   by_cases d:b=0
   .subst d;cases g:M 1<;>simp[a]
   cases i:M (b-1) with
   |false =>
    by_cases c:b=255
    .subst c;simp[a]
    cases g:M (b+1)<;>simp[a,d,c,f]
   |true =>
    by_cases c:b=255
    .subst c;simp[a]
    cases g:M (b+1)<;>simp[a,d,c,f]
def ZQ M:rg M 256=cl M 256:=by rw[ZP M 256 zD,Zn (λh=>h.2.2.1 rfl)]
def KA{l i x}(h:l[i]?=some x):lf l i=x:=by unfold lf;rw[El,h];rfl
def uld{l b}(h:M.bH l.length (lf l))(f:0<=b)(g:b<=255)(s:∀x,l.getLast? = some x->x+2<=b):M.bH (l++[b,b]).length (lf (l++[b,b])):=by
 obtain⟨u,p⟩:=h;have t:(l++[b,b]).length=l.length+2:=sM;rw[t];have a:∀i,i<l.length->lf (l++[b,b]) i=lf l i:=λi j=>by unfold lf;rw[El,El,Es j]
 have d:lf (l++[b,b]) l.length=b:=KA (by rw[Fb (zD)];simp);have e:lf (l++[b,b]) (l.length+1)=b:=KA (by rw[Fb oM];simp);refine⟨oM,λi j=>?_⟩;by_cases c:i<l.length
 .let⟨m,n,c3,o⟩:=p i c;refine⟨by rw[a i c];exact m,by rw[a i c];exact n,λq=>by rw[a i c,a (i-1) oM];exact c3 q,λq=>by rw[a i c,a (i-1) oM];exact o q⟩
 by_cases r:i=l.length
 .subst r;refine⟨by rw[d];exact f,by rw[d];exact g,λq=>oM,λq=>?_⟩;rw[d,a (l.length-1) oM];refine s _ ?_;rw[List.getLast?_eq_getElem?];have k:l[l.length-1]?=some l[l.length-1]:=Bb oM;rw[k,KA k]
 obtain rfl:i=l.length+1:=oM;refine⟨by rw[e];exact f,by rw[e];exact g,λq=>by rw[e,Nj,d];exact Ft _,λq=>oM⟩
def ule{l b x}(h:M.bH (l++[x]).length (lf (l++[x])))(r:x<=b)(m:b<=255):M.bH (l++[b]).length (lf (l++[b])):=by
 obtain⟨f,e⟩:=h;have j:(l++[x]).length=l.length+1:=sM;have k:(l++[b]).length=l.length+1:=sM;rw[j]at f e;rw[k];have c:∀y i,i<l.length->lf (l++[y]) i=lf l i:=λy i d=>ulb l y d;refine⟨f,λi d=>?_⟩;have a:=e i d;by_cases g:i<l.length
 .unfold M.cS at a ⊢;rw[c x i g,c x (i-1) oM]at a;rw[c b i g,c b (i-1) oM];exact a
 obtain rfl:i=l.length:=oM;unfold M.cS at a ⊢;rw[ulc]at a ⊢;obtain⟨n,o,c3,p⟩:=a;refine⟨oM,m,λq=>?_,λq=>oM⟩;have:=c3 q;rw[c x (l.length-1) oM]at this;rw[c b (l.length-1) oM];omega
def ZR m:∀b,b<=256->M.bH (cl m b).length (lf (cl m b))
 |0,_=>⟨by simp[cl],λi g=>absurd g (by simp[cl])⟩
 |b+1,hb=>by
  have a:=ZR m b oM;let⟨d,e⟩:=JZ m b;rw[cl];split
  .split
   .rename_i c;let⟨X,f⟩:=List.getLast?_eq_some_iff.1 (d c);rw[f]at a ⊢;rw[List.dropLast_concat];exact ule a oM oM
   rename_i c;exact uld a oM oM (λx h=>oH ((e x h).2 c))
  exact a
def ZS m:M.bH (rg m 256).length (lf (rg m 256)):=by
 rw[ZQ];exact ZR m 256 zD
def Hx(f:Cf)(n:Bool):Vl :=
 if f.e=0 then .iface 295 (.agg #[Iv f.to,.bool n,Iv (f.c:Int),Iv (f.a:Int)])
 else if f.e=1 then .iface 300 (.agg #[Iv f.to,.bool n,Iv (f.c:Int),Iv (f.a:Int)])
 else .iface 303 (.agg #[Iv f.to,.bool n])
def vo:Bool->List Cf->List Value
 |_,[]=>[]
 |n,f::r=>Hx f (n||f.e==1)::vo (n||f.e==1) r
def HE:∀(l:List Cf) (n:Bool),(vo n l).length=l.length
 |[],_=>rfl
 |f::r,n=>by rw[vo,Db,HE r,Db]
def TS f:∀(l:List Cf) (n:Bool),vo n (l++[f])=vo n l++[Hx f ((n||l.any (λf=>f.e==1))||f.e==1)]
 |[],n=>by simp[vo]
 |g::r,n=>by
  rw[Fc,vo,TS f r,vo,Fc,List.any_cons,Bool.or_assoc n]
def HG:∀(l:List Cf) (n:Bool) (j:Nat),vo n (l.take j)=(vo n l).take j
 |[],n,j=>by simp[vo]
 |f::r,n,0=>by simp[vo]
 |f::r,n,j+1=>by rw[List.take_succ_cons,vo,HG r,vo,List.take_succ_cons]
def HH:∀(l:List Cf) (n:Bool) (i:Nat) (f:Cf),l[i]?=some f->(vo n l)[i]?=some (Hx f (n||(l.take (i+1)).any (λf=>f.e==1)))
 |[],n,i,f,h=>by simp at h
 |g::r,n,0,f,h=>by simp at h;subst h;simp[vo]
 |g::r,n,i+1,f,h=>by
  simp at h;rw[vo,List.getElem?_cons_succ,HH r _ i f h,List.take_succ_cons,List.any_cons,Bool.or_assoc]
structure zX(w:Wl)(b:Nat)(s:zC)(ia:Oa)(il ic:Nat)(mO:Int)(ka:Oa)(kn kc:Nat)(la:Oa)(ln lc:Nat):Prop where
 c0:w.cell? (Ad b 0)=some (Sl ia il ic)
 c1:w.cell? (Ad b 1)=some (Iv mO)
 c2:w.cell? (Ad b 2)=some (Iv s.f)
 c3:w.cell? (Ad b 3)=some (Iv (s.c:Int))
 c4:w.cell? (Ad b 4)=some (Sl ka kn kc)
 c5:w.cell? (Ad b 5)=some (Sl la ln lc)
 c6:w.cell? (Ad b 6)=some (Iv (s.i:Int))
 ex:∀i,i<256->w.cell? (Ad b (7+i))=some (.bool (s.t i))
 c8:w.cell? (Ad b 263)=some (Iv (s.b:Int))
 c9:w.cell? (Ad b 264)=some (Iv (s.d:Int))
 a:w.cell? (Ad b 265)=some (Iv s.s)
 fz:∀j,w.frozen? (Ad b j)=false
structure zR(K L:Np)(w:Wl)(b:Nat)(s:zC)(ia:Oa)(il ic:Nat)(mO:Int)(ka:Oa)(kc:Nat)(la:Oa)(lc:Nat):Prop where
 c:zX w b s ia il ic mO ka s.st.length kc la s.a.length lc
 st:zB K w (Sl ka s.st.length kc) 1 s.st.length (vo false s.st)
 a:zB L w (Sl la s.a.length lc) 3 s.a.length (vb s.a)
 lt:∀x,K x\/L x->x<w.heap.size
 kl:∀x,K x->¬L x
 kb:¬K b
 lb:¬L b
def zX.on{w w' b s d il ic mO e g f la ln lc}(h:zX w b s d il ic mO e g f la ln lc)(k:w'.heap[b]?=w.heap[b]?):zX w' b s d il ic mO e g f la ln lc:=by
 have c:∀o,w'.cell? (Ad b o)=w.cell? (Ad b o):=λo=>Bd (a:=(Ad b o)) k;exact⟨(c _).trans h.c0,(c _).trans h.c1,(c _).trans h.c2,(c _).trans h.c3,(c _).trans h.c4,(c _).trans h.c5,(c _).trans h.c6,λi l=>(c _).trans (h.ex i l),(c _).trans h.c8,(c _).trans h.c9,(c _).trans h.a,λj=>(Dp (a:=(Ad b j)) k).trans (h.fz j)⟩
def zR.on{K L w w' b s e il ic mO f g la lc}(h:zR K L w b s e il ic mO f g la lc)(k:∀x,K x\/L x\/x=b->w'.heap[x]?=w.heap[x]?)(i:w.heap.size<=w'.heap.size):zR K L w' b s e il ic mO f g la lc :=
 ⟨h.c.on (k b (.inr (.inr rfl))),h.st.on (λx d=>k x (.inl d)),h.a.on (λx d=>k x (.inr (.inl d))),λx d=>Ba (h.lt x d) i,h.kl,h.kb,h.lb⟩
def zR.bl{K L w b s a il ic mO d e la lc}(h:zR K L w b s a il ic mO d e la lc):b<w.heap.size:=ud h.c.c0
def zR.h{K L w w' b s a il ic mO c d la lc}(h:zR K L w b s a il ic mO c d la lc)(k:Bw w w'):zR K L w' b s a il ic mO c d la lc :=
 h.on (λx e=>k.block x (by rcases e with q|q|q;exact h.lt x (.inl q);exact h.lt x (.inr q);rw[q];exact h.bl)) k.size
def zX.c{w b s d il ic mO e k g la ln lc}(h:zX w b s d il ic mO e k g la ln lc)z:zX (w.setCell (Ad b 2) (Iv z)) b { s with f:=z } d il ic mO e k g la ln lc :=
 ⟨ui oM h.c0,ui oM h.c1,uC h.c2,ui oM h.c3,ui oM h.c4,ui oM h.c5,ui oM h.c6,λi l=>ui oM (h.ex i l),ui oM h.c8,ui oM h.c9,ui oM h.a,λj=>Jn.trans (h.fz j)⟩
def zX.f{w}{b:Nat}{s d}{il ic:Nat}{mO:Int}{e}{k g:Nat}{la}{ln lc:Nat}(h:zX w b s d il ic mO e k g la ln lc)(z:Nat):zX (w.setCell (Ad b 3) (Iv (z:Int))) b { s with c:=z } d il ic mO e k g la ln lc :=
 ⟨ui oM h.c0,ui oM h.c1,ui oM h.c2,uC h.c3,ui oM h.c4,ui oM h.c5,ui oM h.c6,λi l=>ui oM (h.ex i l),ui oM h.c8,ui oM h.c9,ui oM h.a,λj=>Jn.trans (h.fz j)⟩
def zX.d{w b s c il ic mO l n m la ln lc}(h:zX w b s c il ic mO l n m la ln lc)e g f:zX (w.setCell (Ad b 4) (Sl e g f)) b s c il ic mO e g f la ln lc :=
 ⟨ui oM h.c0,ui oM h.c1,ui oM h.c2,ui oM h.c3,uC h.c4,ui oM h.c5,ui oM h.c6,λi k=>ui oM (h.ex i k),ui oM h.c8,ui oM h.c9,ui oM h.a,λj=>Jn.trans (h.fz j)⟩
def zX.e{w b s c il ic mO d g f la ln lc}(h:zX w b s c il ic mO d g f la ln lc)k m l:zX (w.setCell (Ad b 5) (Sl k m l)) b s c il ic mO d g f k m l :=
 ⟨ui oM h.c0,ui oM h.c1,ui oM h.c2,ui oM h.c3,ui oM h.c4,uC h.c5,ui oM h.c6,λi n=>ui oM (h.ex i n),ui oM h.c8,ui oM h.c9,ui oM h.a,λj=>Jn.trans (h.fz j)⟩
def zX.n{w}{b:Nat}{s c}{il ic:Nat}{mO:Int}{d}{f e:Nat}{la}{ln lc:Nat}(h:zX w b s c il ic mO d f e la ln lc)(z:Nat):zX (w.setCell (Ad b 6) (Iv (z:Int))) b { s with i:=z } c il ic mO d f e la ln lc :=
 ⟨ui oM h.c0,ui oM h.c1,ui oM h.c2,ui oM h.c3,ui oM h.c4,ui oM h.c5,uC h.c6,λi g=>ui oM (h.ex i g),ui oM h.c8,ui oM h.c9,ui oM h.a,λj=>Jn.trans (h.fz j)⟩
def zX.l{w}{b:Nat}{s c}{il ic:Nat}{mO:Int}{d}{f e:Nat}{la}{ln lc:Nat}(h:zX w b s c il ic mO d f e la ln lc)(z:Nat):zX (w.setCell (Ad b 263) (Iv (z:Int))) b { s with b:=z } c il ic mO d f e la ln lc :=
 ⟨ui oM h.c0,ui oM h.c1,ui oM h.c2,ui oM h.c3,ui oM h.c4,ui oM h.c5,ui oM h.c6,λi g=>ui oM (h.ex i g),uC h.c8,ui oM h.c9,ui oM h.a,λj=>Jn.trans (h.fz j)⟩
def zX.m{w}{b:Nat}{s c}{il ic:Nat}{mO:Int}{e}{g f:Nat}{la}{ln lc:Nat}(h:zX w b s c il ic mO e g f la ln lc)(z:Nat):zX (w.setCell (Ad b 264) (Iv (z:Int))) b { s with d:=z } c il ic mO e g f la ln lc :=
 ⟨ui oM h.c0,ui oM h.c1,ui oM h.c2,ui oM h.c3,ui oM h.c4,ui oM h.c5,ui oM h.c6,λi k=>ui oM (h.ex i k),ui oM h.c8,uC h.c9,ui oM h.a,λj=>Jn.trans (h.fz j)⟩
def zX.h{w b s c il ic mO d f e la ln lc}(h:zX w b s c il ic mO d f e la ln lc)z:zX (w.setCell (Ad b 265) (Iv z)) b { s with s:=z } c il ic mO d f e la ln lc :=
 ⟨ui oM h.c0,ui oM h.c1,ui oM h.c2,ui oM h.c3,ui oM h.c4,ui oM h.c5,ui oM h.c6,λi g=>ui oM (h.ex i g),ui oM h.c8,ui oM h.c9,uC h.a,λj=>Jn.trans (h.fz j)⟩
def zR.n{K L w w' b s s' g il ic mO i j la lc}(h:zR K L w b s g il ic mO i j la lc)(f:Ct (λx=>x=b) w w')(m:s'.st=s.st)(k:s'.a=s.a)(o:zX w' b s' g il ic mO i s.st.length j la s.a.length lc):zR K L w' b s' g il ic mO i j la lc:=by
 refine⟨by rw[m,k];exact o,?_,?_,λx c=>by rw[f.l];exact h.lt x c,h.kl,h.kb,h.lb⟩
 .rw[m];exact h.st.on (λx c=>f.d x (λe=>h.kb (e▸c)))
 rw[k];exact h.a.on (λx c=>f.d x (λe=>h.lb (e▸c)))
def qd(t:zC):Int:=if t.e then t.r else -1
def zN(t:zC)(K L:Np)(b:Nat)(d:Oa)(il ic:Nat)(mO:Int)(w:Wl)(e:Ending)(w':Wl):Prop :=
 e=Rt (Iv (qd t))/\∃z st g h la lc,∃a c:Nat->Prop,(t.e=false->z=t.f/\st=t.st)/\zR a c w' b { t with f:=z,st:=st } d il ic mO g h la lc /\
  (∀x,a x->K x\/zF w w' x)/\(∀x,c x->L x\/zF w w' x)/\Kept (λx=>K x\/L x\/x=b) w w'
def UF M:∀b,(cl M b).length<=2*b
 |0=>zD
 |b+1=>by
  have:=UF M b;rw[cl];split
  .split
   .rw[zJ,Vn,Dd];omega
   rw[zJ];simp;omega
  omega
def unB{w0 w1 v l}z y ty(h:Br w0 w1 v l)(t:Dc w0 w1)(w:l.length<=4194304) :
  ∃k w',(Builtin.append_ #[25,25] ty #[v,Sl (Sm w1.heap.size 0) 2 2]).run prog (w1.alloc (Oc #[Iv z,Iv y] 3))=.ok k w'/\Br w0 w' k (l++[z,y])/\Dc w0 w':=by
 obtain⟨P,p,m,i⟩:=h;have b1:=uk w1 (Oc #[Iv z,Iv y] 3);have s:Src prog 1 25 (Sl (Sm w1.heap.size 0) 2 2) 2 [Iv z,Iv y] (w1.alloc (Oc #[Iv z,Iv y] 3)):=qg underlying25 rfl rfl rfl;let⟨k,w',r,u,j,B⟩:=kE ty jE (p.on (λb i=>b1.block b (m b i).2)) s oM (λ_=>oM);refine⟨k,w',r,⟨λb=>(P b\/(w1.alloc (Oc #[Iv z,Iv y] 3)).heap.size<=b)/\b<w'.heap.size,?_,?_,?_⟩,(t.c (qU w1 3) b1).a j⟩
 .have e:vL (l++[z,y])=vL l++[Iv z,Iv y]:=by simp[vL]
  rw[e,zJ];show zB _ _ _ _ (l.length+2) _;exact u.a oM (λb q i=>⟨q,i⟩)
 .rintro b ⟨q|q,n⟩
  .exact⟨(m b q).1,n⟩
  have:=i.size;have:=b1.size;exact⟨oM,n⟩
 have x:=i.size;have A:=b1.size;exact⟨j.os.trans (b1.os.trans i.os),j.g.trans (b1.tape.trans i.tape),j.f.trans (b1.output.trans i.output),by have:=j.l;omega,λb o=>(j.d b oM (λq=>oH ((m b q).1))).trans ((b1.block b oM).trans (i.block b o))⟩
def UG{ops:Array Oper}{rest:List Oper}{o:Oper}{a:Act}{d:Exit->Act->World->Prop}(i:o.guard=none)(s x:Operand)(m:o.op=.call { callee:=.builtin .append,args:=#[s,x],argTypes:=#[25,25] })
  {w0 w1:Wl} {v:Vl} {l:LI} {z y:Int} (p:a.eval s=v) (r:a.eval x=Sl (Sm w1.heap.size 0) 2 2) (h:Br w0 w1 v l) (q:Dc w0 w1) (j:l.length<=4194304)
  (k:∀w' l' c b c',Hid (l'=l++[z,y])->Hid (c=l'.length)->Hid (Br w0 w' (Sl b c c') l')->Hid (Dc w0 w')->wpList prog ops d rest (a.put o.dst (Sl b c c')) w'):wpList prog ops d (o::rest) a (w1.alloc (Oc #[Iv z,Iv y] 3)):=by
 refine wpList_plain i λK f=>?_;let⟨t,w',n,e,g⟩:=unB z y o.type h q j;obtain⟨b,c',rfl⟩:=e.a;exact yO m p r n (f _ _ (k w' (l++[z,y]) _ b c' rfl rfl e g))
def UH{w0 w a c j X x}(h:Br w0 w (Sl a (j+1) c) (X++[x]))(v:X.length=j) :
  ∃g,a=some (Ad g 0)/\w0.heap.size<=g/\g<w.heap.size/\w.cell? (Ad g j)=some (Iv x)/\w.frozen? (Ad g j)=false/\∀y:Int,Br w0 (w.setCell (Ad g j) (Iv y)) (Sl (Sm g 0) (j+1) c) (X++[y]):=by
 subst v;obtain⟨P,A,f,t⟩:=h;have F:(X++[x]).length=X.length+1:=sM;rcases A with⟨_,e,_⟩|⟨g,cap,e,k,D,E,r,s⟩
 .omega
 injection e with e1 e2 e3;subst e3;have l:vL (X++[x])=vL X++[Iv x]:=by simp[vL]
 have d:(vL X).length=X.length:=by simp[vL]
 have n:w.cell? (Ad g X.length)=some (Iv x):=by
  rw[r X.length (by rw[l];simp[d]),l,Fb oM,d];simp
 refine⟨g,e1,(f g k).1,(f g k).2,n,(s X.length oM).2,λy=>⟨P,?_,λb q=>by rw[uh];exact f b q,?_⟩⟩
 .have m:vL (X++[y])=vL X++[Iv y]:=by simp[vL]
  have z:(X++[y]).length=X.length+1:=sM;rw[z];refine .inr ⟨g,c,rfl,k,by rw[m];simp[d],oM,λi o=>?_,λi o=>?_⟩
  .rw[m,zJ,d,Dd]at o;by_cases e:i=X.length
   .subst e;rw[uC n,m,Fb oM,d];simp
   rw[uu (λq=>e q.symm),r i (by rw[l];simp[d];omega),l,m,Es oM,Es oM]
  let⟨B,C⟩:=s i o;refine⟨?_,Jn.trans C⟩;by_cases e:i=X.length
  .subst e;rw[uC n];rfl
  rw[uu (λq=>e q.symm)];exact B
 have u:=(f g k).1;exact t.setCell (p:=(Ad g X.length)) u _
def HC(l:LI)(w:Wl)(e:Ending)(w':Wl):Prop:=∃a c,e=Rt (Sl a l.length c)/\Br w w' (Sl a l.length c) l/\Dc w w'
def clI(w:Wl)(M:Nat->Bool)(b a:Vl)(wr:Wl):Prop:=∃k:Nat,k<=256/\a=Iv (k:Int)/\Br w wr b (cl M k)/\Dc w wr
def HL:(prog.info? 110).map (·.size)=some 256:=rR
def upQ:(prog.info? 4).map (·.size)=some 1:=rR
def unC a(k:Nat)v w(f:k<256)(e:a[k]?=some v):(Instr.index 110 (.agg a) (Iv (k:Int))).run prog w=.ok v w:=by
 let⟨j,c,d⟩:=Hn.1 upQ;have b:(k:Int)<256:=oM;simp[Instr.index,asIntOf,run_underlying underlying110,run_underlying underlying4,Go.part,isAgg,sizeOf,typeInfo,c,d,b,e];intro q;omega
def UI b r M w(hs:r.size=256)(hM:∀i,i<256->r[i]?=some (.bool (M i==b))) :
  Cs 111 #[.agg r,.bool b] w (HC (rg M 256) w):=by
 have U:=ua hM;have T:Hid (∀e w',HC (cl M 256) w e w'->HC (rg M 256) w e w'):=λe w' h=>by rw[ZQ];exact h
 go_enter func111,ntmps111;go_wp2;refine wp_load_mid 110 (.tmp 2) rfl w.heap.size 0 rfl r.toList (.array 256 4) (λj v hv=>?_) underlying110 rfl (by rw[Ph,hs];exact HL) ?_
 .rw[Bp];exact uN (xC w _ _ rfl) (by simpa using hv)
 rw[Array.toArray_toList];go_wp2;go_loopw [5,9] (λR E wr=>clI w M R E wr) (λR E _=>256-(intOf E).toNat)
 .exact⟨0,oM,rfl,Br.nil (zO w),qU w 110⟩
 obtain⟨k,hk,rfl,c,aa⟩:=hrel;have p:=ua aa;obtain⟨P,Q,rfl⟩:=c.a;have ag:=UF M k;let⟨t,J⟩:=nm ((cl M k).length);rw[J]at c ag ⊢;have f:=ua c;have d:=ua J;by_cases I:k<256
 .have hlt':(k:Int)<256:=oM;have y:=λw=>unC r k _ w I (U k I);have s:cl M (k+1)=(if M k=true then (if k≠0/\M (k-1)=true then (cl M k).dropLast++[(k:Int)] else cl M k++[(k:Int),(k:Int)]) else cl M k):=rfl;cases G:M k with
  |false =>
   rw[G]at s y;have ah:((!b) != b)=true:=by cases b<;>rfl
   rw[show(false==b) = !b by cases b<;>rfl]at y;have m:Hid (cl M (k+1)=cl M k):=(by show _=_;rw[s];simp);go_wp2;go_roundw
   .exact⟨k+1,oM,by go_num,by rw[m.o];exact f,p⟩
   simp[intOf];omega
  |true =>
   rw[G]at s y;have ah:(b != b)=false:=by cases b<;>rfl
   rw[show(true==b)=b by cases b<;>rfl]at y;let⟨ae,af⟩:=JZ M k;by_cases z:k≠0/\M (k-1)=true
   .have m:Hid (cl M (k+1)=(cl M k).dropLast++[(k:Int)]):=(by show _=_;rw[s,Zp rfl,Zp z]);let⟨X,H⟩:=nm ((cl M k).dropLast);have o:cl M k=X++[(k:Int)-1]:=by
     rw[<-H];have:=ae z;rw[List.getLast?_eq_some_iff]at this;obtain⟨ys,hy⟩:=this;rw[hy];simp
    obtain⟨j,rfl⟩:∃j,t=j+1:=⟨t-1,by have:=d.o;rw[o,zJ,Dd]at this;omega⟩;have u:X.length=j:=(by have:=d.o;rw[o,zJ,Dd]at this;omega);have c:=f;rw[o]at c;obtain⟨g,rfl,g1,g2,D,f1,N⟩:=UH c u;have V:=ua N;have Y:Hid (cl M (k+1)=X++[(k:Int)]):=(by show _=_;rw[m.o,H]);have ai:=ua u;have ab:(0:Int)<((j+1:Nat):Int):=oM;have e1:((j+1:Nat):Int)-1=(j:Int):=oM;have ad:(j:Int)<((j+1:Nat):Int):=oM;have ac:j<=512:=oM;go_wp2;go_roundw
    .exact⟨k+1,oM,by go_num,by rw[Y.o];exact V _,p.set _ _⟩
    simp[intOf];omega
   have m:Hid (cl M (k+1)=cl M k++[(k:Int),(k:Int)]):=(by show _=_;rw[s,Zp rfl,Zn z]);rcases Nn t with F|F
   .subst F;go_wp2_with (at_builtin;refine UG (l:=cl M k) rfl _ _ rfl rfl rfl f.o p.o (by rw[d.o];omega) ?_;intro W L n Z D A S B C);go_roundw
    .exact⟨k+1,oM,by go_num,by rw[m.o];exact A.o▸B.o,C.o⟩
    simp[intOf];omega
   obtain⟨j,rfl⟩:∃j,t=j+1:=⟨t-1,oM⟩;obtain⟨x,O⟩:∃x,(cl M k).getLast? = some x:=by
    cases q:(cl M k).getLast? with
    |none=>rw[List.getLast?_eq_none_iff]at q;have:=d.o;rw[q]at this;simp at this
    |some x=>exact⟨x,rfl⟩
   have ak:=(af x O).2 z;let⟨X,o⟩:=List.getLast?_eq_some_iff.1 O;have u:X.length=j:=(by have:=d.o;rw[o,zJ,Dd]at this;omega);have c:=f;rw[o]at c;obtain⟨g,rfl,g1,g2,D,f1,N⟩:=UH c u;have aj:(x==(k:Int)-1)=false:=sO;have ab:(0:Int)<((j+1:Nat):Int):=oM;have e1:((j+1:Nat):Int)-1=(j:Int):=oM;have ad:(j:Int)<((j+1:Nat):Int):=oM;have ac:j<=512:=oM;go_wp2_with (at_builtin;refine UG (l:=cl M k) rfl _ _ rfl rfl rfl f.o p.o (by rw[d.o];omega) ?_;intro W L n Z D A S B C);go_roundw
   .exact⟨k+1,oM,by go_num,by rw[m.o];exact A.o▸B.o,C.o⟩
   simp[intOf];omega
 obtain rfl:k=256:=oM;go_wp2;go_ret;refine T _ _ ⟨P,Q,Bj (λn=>Rt (Sl P n Q)) d.symm,?_,p⟩;rw[d.o];exact f
def zQ.h{w w1 w':Wl}{v:Vl}{D:List OpD}{C:Np}(h:zQ (zF w w1) w1 v D)(k:zA C w1 w')(c:∀b,C b->b<w.heap.size:=by intro b q;exact q.elim):zQ (zF w w1) w' v D :=
 h.on (λb a=>k.d b a.2 (λq=>oG (c b q) a.1))
structure Ht(Q:Np)(t:zC)(cd ps lb fa:Int)(xa:Oa)(xn:Nat)(th:Int)(va:Oa)(vn:Nat)(w w':Wl):Prop where
 r:cd=t.r
 e:cd=0\/cd=1\/cd=2\/cd=3
 i:cd≠3->fa=(t.i:Int)/\th=(t.d:Int)/\Fm Q w' xa xn t.t
 ok:cd=0->ps=(t.c:Int)/\vn=t.a.length/\∃vc,zB Q w' (Sl va vn vc) 3 vn (vb t.a)
 d:cd=2->ps=(t.c:Int)/\lb=t.s
 q:Bw w w'
 lz:cd≠2->lb=0
def WT(Q:Wl->Nat->Prop)(t:zC)(w:Wl)(e:Ending)(w':Wl):Prop:=∃a ps lb b f g xc st th c d h,e=Rt (.agg #[Iv a,Iv ps,Iv lb,Iv b,Sl f g xc,Iv st,Iv th,Sl c d h])/\Ht (Q w') t a ps lb b f g th c d w w'
def WU(t:zC)(w:Wl):Ending->World->Prop:=WT (zF w) t w
def Ht.mv{Q Q' t a ps lb b m n th k l w0 w w' W}(h:Ht Q t a ps lb b m n th k l w w')(f:zS Q w' W)(j:∀x,Q x->Q' x)(p:Bw w0 W):Ht Q' t a ps lb b m n th k l w0 W :=
 ⟨h.r,h.e,λc=>⟨(h.i c).1,(h.i c).2.1,((h.i c).2.2.on f).g j⟩,λc=>⟨(h.ok c).1,(h.ok c).2.1,let⟨vc,o⟩:=(h.ok c).2.2;⟨vc,uA (o.on f) j⟩⟩,h.d,p,h.lz⟩
def Xg{Q w}:zS Q w w:=λ_ _=>rfl
def zS.i{Q w w'}(h:zS Q w w'):zS Q w w'.drew:=h
def zS.n{Q w w'}(h:zS Q w w')b o v(a:¬Q b):zS Q w (w'.setCell (Ad b o) v):=h.c (MQ _ _ _ a)
def UN(v:Vl)(W:Wl)(e:Ending)(w':Wl):Prop:=e=Rt v/\w'=W
def UO b a c w(d:w.cell? (Ad b 4)=some (Sl a 0 c)) :
  Cs 207 #[.pointer (Sm b 0)] w (UN .nilIface w):=by
 go_enter func207,ntmps207;go_wp2;go_ret;exact⟨rfl,rfl⟩
def HS b g j a{v} w(c:w.cell? (Ad b 4)=some (Sl (Sm g 0) (j+1) a))(f:w.frozen? (Ad b 4)=false)(d:w.cell? (Ad g j)=some v)(h:j<=1000)(i:j+1<=a) :
  Cs 207 #[.pointer (Sm b 0)] w (UN v (w.setCell (Ad b 4) (Sl (Sm g 0) j a))):=by
 have e:((j+1:Nat):Int)-1=(j:Int):=oM;have k:(j:Int)<((j+1:Nat):Int):=oM;have hk':(j:Int)<=(a:Int):=oM;go_enter func207,ntmps207;go_wp2;go_ret;exact⟨rfl,rfl⟩
def HT:(prog.info? 289).map (·.size)=some 2:=rR
def unF : (Tryz.prog.info? 295).bind (fun i => (i.methods.find? (·.name == "loop.example/s0055/impl.head")).map (fun m => (m.path, m.func))) = some (#[⟨295, 0, false⟩], some (274, false)) := by kernel_rfl
def ukG fuel a b c d w : (method (fuel + 1) 295 (.agg #[a, b, c, d]) "loop.example/s0055/impl.head").run Tryz.prog w = .ok (274, .agg #[a, b]) w := by
 let⟨i,hi,hm⟩:=Option.bind_eq_some_iff.1 unF;let⟨m,hf,hmm⟩:=Hn.1 hm;simp only[No]at hmm;let⟨j,hj,hs⟩:=Hn.1 HT;unfold method;simp[typeInfo,hi,hf,hmm.1,hmm.2,hj,hs,follow,run_underlying Tryz.underlying295,run_underlying Tryz.underlying289,receiverAt,Go.part,isAgg,sizeOf,Place.get]
def uvk : (Tryz.prog.info? 300).bind (fun i => (i.methods.find? (·.name == "loop.example/s0055/impl.head")).map (fun m => (m.path, m.func))) = some (#[⟨300, 0, false⟩], some (274, false)) := by kernel_rfl
def usu fuel a b c d w : (method (fuel + 1) 300 (.agg #[a, b, c, d]) "loop.example/s0055/impl.head").run Tryz.prog w = .ok (274, .agg #[a, b]) w := by
 let⟨i,hi,hm⟩:=Option.bind_eq_some_iff.1 uvk;let⟨m,hf,hmm⟩:=Hn.1 hm;simp only[No]at hmm;let⟨j,hj,hs⟩:=Hn.1 HT;unfold method;simp[typeInfo,hi,hf,hmm.1,hmm.2,hj,hs,follow,run_underlying Tryz.underlying300,run_underlying Tryz.underlying289,receiverAt,Go.part,isAgg,sizeOf,Place.get]
def uvl : (Tryz.prog.info? 303).bind (fun i => (i.methods.find? (·.name == "loop.example/s0055/impl.head")).map (fun m => (m.path, m.func))) = some (#[⟨303, 0, false⟩], some (274, false)) := by kernel_rfl
def usv fuel a b w : (method (fuel + 1) 303 (.agg #[a, b]) "loop.example/s0055/impl.head").run Tryz.prog w = .ok (274, .agg #[a, b]) w := by
 let⟨i,hi,hm⟩:=Option.bind_eq_some_iff.1 uvl;let⟨m,hf,hmm⟩:=Hn.1 hm;simp only[No]at hmm;let⟨j,hj,hs⟩:=Hn.1 HT;unfold method;simp[typeInfo,hi,hf,hmm.1,hmm.2,hj,hs,follow,run_underlying Tryz.underlying303,run_underlying Tryz.underlying289,receiverAt,Go.part,isAgg,sizeOf,Place.get]
def HU z n w:(Instr.field 289 (.agg #[Iv z,.bool n]) 1).run prog w=.ok (.bool n) w:=by
 simp[Instr.field,run_underlying underlying289,run_underlying underlying4,Go.part,isAgg,asAgg]
def HV{z}{n}{w}:Cs 274 #[.agg #[Iv z,.bool n]] w (JX (.agg #[Iv z,.bool n]) w):=by
 go_enter func274,ntmps274;go_wp2;refine zL (v:=.agg #[Iv z,.bool n]) ?_ rfl ⟨rfl,Bm w⟩;simp[results,f274,go_sem]
def uiR b a c w(d:w.cell? (Ad b 4)=some (Sl a 0 c)) :
  Cs 201 #[.pointer (Sm b 0)] w (Sq false w):=by
 go_enter func201,ntmps201;go_wp2;go_ret;exact⟨rfl,zH _⟩
def uiS b g j m f n w(o:w.cell? (Ad b 4)=some (Sl (Sm g 0) (j+1) m))(i:w.cell? (Ad g j)=some (Hx f n))(q:j<=1000) :
  Cs 201 #[.pointer (Sm b 0)] w (Sq n w):=by
 have p:((j+1:Nat):Int)-1=(j:Int):=oM;have r:(j:Int)<((j+1:Nat):Int):=oM;unfold Hx at i;split at i
 .skip
  have k:=HU f.to n;have l:=λfU w=>ukG fU (Iv f.to) (.bool n) (Iv f.c) (Iv f.a) w;go_enter func201,ntmps201;go_wp2_with (go_at_call 274;refine(HV).mono ?_;rintro e W ⟨rfl,d⟩;have h:Hid _:=d;clear d);go_ret;exact⟨rfl,h⟩
 split at i
 .skip
  have k:=HU f.to n;have l:=λfU w=>usu fU (Iv f.to) (.bool n) (Iv f.c) (Iv f.a) w;go_enter func201,ntmps201;go_wp2_with (go_at_call 274;refine(HV).mono ?_;rintro e W ⟨rfl,d⟩;have h:Hid _:=d;clear d);go_ret;exact⟨rfl,h⟩
 skip
 have k:=HU f.to n;have l:=λfU w=>usv fU (Iv f.to) (.bool n) w;go_enter func201,ntmps201;go_wp2_with (go_at_call 274;refine(HV).mono ?_;rintro e W ⟨rfl,d⟩;have h:Hid _:=d;clear d);go_ret;exact⟨rfl,h⟩
def UP{K w a b l j f}(h:zB K w (Sl a l.length b) 1 l.length (vo false l))(o:l.length=j+1)(d:l[j]?=some f) :
  ∃g,a=some (Ad g 0)/\K g/\l.length<=b/\w.cell? (Ad g j)=some (Hx f (l.any (λf=>f.e==1))):=by
 rcases h with⟨_,e,_⟩|⟨g,cap,e,i,k,m,c,n⟩
 .omega
 injection e with e1 e2 e3;refine⟨g,e1,i,oM,?_⟩;rw[c j (by rw[HE];omega),HH l false j f d,Kg oM,Qz]
def qL K L b s o il ic mO l i la lc{w}(k:zR K L w b s o il ic mO l i la lc)(r:s.st.length<=1000) :
  Cs 201 #[.pointer (Sm b 0)] w (Sq s.j w):=by
 have a:=k.c.c4;rcases Nn s.st.length with d|d
 .have e:s.j=false:=by unfold zC.j;rw[Ic d];rfl
  rw[e];rw[d]at a;exact uiR b l i w a
 obtain⟨j,h⟩:∃j,s.st.length=j+1:=⟨s.st.length-1,oM⟩;let⟨f,n,_⟩:=YU h;obtain⟨g,rfl,p,q,m⟩:=UP k.st h n;rw[h]at a;exact uiS b g j i f s.j w a m oM
def UQ K L b s f il ic mO g i la lc z w(n:zR K L w b s f il ic mO g i la lc)(o:s.st.length<=1000) :
  Cs 205 #[.pointer (Sm b 0),Iv z] w (JX (.agg #[Iv z,.bool s.j]) w):=by
 have k:=ua n;let⟨q,d⟩:=nm s.j;have m:=ua d;rw[d];go_enter func205,ntmps205;go_wp2_with fail;refine(qL K L b s f il ic mO g i la lc (k.h (zO w)) o).mono ?_;rintro e W ⟨rfl,c⟩;rw[m.o];have u:=ue (a:=(Ad w.heap.size 0)) (v:=Iv 0) (cN w.heap.size rfl rfl) c;have x:=ue (a:=(Ad w.heap.size 1)) (v:=Bf) (cN w.heap.size rfl rfl) c;have r:W.frozen? (Ad w.heap.size 0)=false:=by
  rw[c.frozen (p:=(Ad w.heap.size 0)) sM];exact qU w 289 _ _ oM sM
 have t:W.frozen? (Ad w.heap.size 1)=false:=by
  rw[c.frozen (p:=(Ad w.heap.size 1)) sM];exact qU w 289 _ _ oM sM
 have l:=ua (uf (zO w) c);go_wp2;refine zL (v:=.agg #[Iv z,.bool q]) ?_ rfl ?_
 .simp[results,f205,go_sem, *]
 exact⟨rfl,uD (uD l oM) oM⟩
def HY(b pos ln lc:Nat)la{w}(c3:w.cell? (Ad b 3)=some (Iv (pos:Int)))(a:w.cell? (Ad b 5)=some (Sl la ln lc)) :
  Cs 206 #[.pointer (Sm b 0)] w (JX (.agg #[Iv (pos:Int),Iv (ln:Int)]) w):=by
 have lb:=ud c3;go_enter func206,ntmps206;go_wp2;go_region;all_goals
  go_wp2;refine zL (v:=.agg #[Iv pos,Iv ln]) ?_ rfl ?_
  .simp[results,f206,go_sem, *]
  exact⟨rfl,(zO w).drew⟩
def Ug(M:Nat->Bool):List Value:=(List.range 256).map (λi=>.bool (M i))
def TY M:(Ug M).length=256:=by simp[Ug]
def TZ M{i}(h:i<256):(Ug M)[i]?=some (.bool (M i)):=by simp[Ug,h]
def unz{w b s d il ic mO e g f la ln lc}(h:zX w b s d il ic mO e g f la ln lc):w.rangeAt b 7 (Ug s.t):=λj v a=>by
 have c:j<256:=by have:=(Bz.1 a).1;rw[TY]at this;exact this
 rw[TZ _ c]at a;cases a;exact h.ex j c
def zG.s8{w b d f g c3 i j k l}(h:zG w b #[d,f,g,c3,i,j,k,l])a c v2 v3 v4 v5 v6 v7:zG ((((((((w.setCell (Ad b 0) a).setCell (Ad b 1) c).setCell (Ad b 2) v2).setCell (Ad b 3) v3).setCell (Ad b 4) v4).setCell (Ad b 5) v5).setCell (Ad b 6) v6).setCell (Ad b 7) v7) b #[a,c,v2,v3,v4,v5,v6,v7]:=by
 have e:=(((((((h.set 0 a).set 1 c).set 2 v2).set 3 v3).set 4 v4).set 5 v5).set 6 v6).set 7 v7;simp only[List.setIfInBounds_toArray,List.set_cons_zero,List.set_cons_succ]at e;exact e
def zG.c8{w b a c d c3 e f g i}(h:zG w b #[a,c,d,c3,e,f,g,i]):w.cell? (Ad b 0)=some a/\w.cell? (Ad b 1)=some c/\w.cell? (Ad b 2)=some d/\w.cell? (Ad b 3)=some c3/\w.cell? (Ad b 4)=some e/\w.cell? (Ad b 5)=some f/\w.cell? (Ad b 6)=some g/\w.cell? (Ad b 7)=some i/\∀o,w.frozen? (Ad b o)=false:=let⟨z,p,_⟩:=h.x;⟨z 0,z 1,z 2,z 3,z 4,z 5,z 6,z 7,p⟩
def oC(a ps lb e:Int)(b:Oa)(d c:Nat)(st th:Int)(f:Oa)(h g:Nat):Array Value:=#[Iv a,Iv ps,Iv lb,Iv e,Sl b d c,Iv st,Iv th,Sl f h g]
def XQ(X W:Wl)(a:Nat):Nat->Prop:=λx=>X.heap.size<=x/\x<W.heap.size/\x≠a
def HD{X W a}:¬XQ X W a a:=λh=>h.2.2 rfl
def HF{X W b a}(k:a<X.heap.size):¬XQ X W b a:=λh=>oH h.1
def UA{X W:Wl}{o:Obj}:¬zF (X.alloc o).drew W X.heap.size:=λh=>by
 have k:(X.alloc o).drew.heap.size<=X.heap.size:=h.1;rw[World.size_drew,Ck]at k;omega
def Fm.l{L:Np}{w X W W'}{d b:Nat}{a}{M:Nat->Bool}(h:Fm (XQ X W d) W a b M)(e:zS (XQ X W d) W W')(i:W.heap.size<=W'.heap.size)(f:w.heap.size<=X.heap.size):Fm (λx=>L x\/zF w W' x) W' a b M:=(h.on e).g λx c=>.inr ⟨zP f c.1,Ba c.2.1 i⟩
def uiO K L b u ia il ic mO ka kc la lc f w(P:zR K L w b u ia il ic mO ka kc la lc)(S:f=u.r)(T:f=0\/f=1\/f=2\/f=3) :
  Cs 49 #[.pointer (Sm b 0),Iv f] w (WT (λw' x=>L x\/zF w w' x) u w):=by
 have Y:=ua P;have lb:=P.bl;have V:=ua (um w #[Iv 0,Iv 0,Iv 0,Iv 0,nS,Iv 0,Iv 0,nS] 44);have Z:=ua (uk w (Oc #[Iv 0,Iv 0,Iv 0,Iv 0,nS,Iv 0,Iv 0,nS] 44));have A:=ua (P.h Z);have HK:=ua T;have F:=ua S;by_cases h3:f=3
 .subst h3;clear S T;go_enter func49,ntmps49;go_wp2;refine zL (v:=.agg (oC 3 0 0 0 none 0 0 0 0 none 0 0)) ?_ rfl ⟨_,_,_,_,_,_,_,_,_,_,_,_,rfl,F.o,.inr (.inr (.inr rfl)),λh=>aB rfl h,λh=>aB h dC,λh=>aB h dC,zO w,λ_=>rfl⟩;unfold oC;simp[results,f49,go_sem, *]
 have f4:(f==4)=false:=sO;have f3:(f==3)=false:=sO;clear h3 S T;go_enter func49,ntmps49;go_upto_region 3 with fail;generalize w.alloc _=X at *;have lX:=V.x.2.2;let⟨EX,Q⟩:=nm (Ug u.t);have aa:=Q▸TY _;have ah:=underlying110;have ae:(prog.info? 110).map (·.size)=some EX.length:=by rw[aa];exact HL
 have ac:Hid (∀W,Cs 111 #[.agg EX.toArray,Bt] W (λe W'=>∃a n c,e=Rt (Sl a n c)/\Fm (zF W W') W' a n u.t/\Bw W W')):=λW=>(UI true EX.toArray u.t W (by simp[aa]) (λi hi=>by rw[List.getElem?_toArray,<-Q,beq_true];exact TZ _ hi)).mono (λe W' ⟨a,c,h,R,_⟩=>⟨a,_,c,h,⟨rfl,Uw R,ZO R⟩,R.q⟩);have HZ:Hid (∀W,Bw X W->W.cell? (Ad b 6)=some (Iv u.i)/\W.cell? (Ad b 263)=some (Iv u.b)/\W.cell? (Ad b 264)=some (Iv u.d)/\W.rangeAt b 7 EX):=λW J=>⟨ue A.c.c6 J,ue A.c.c8 J,ue A.c.c9 J,λj v hv=>ue (unz A.c j v (Q▸hv)) J⟩;let⟨c6,c8,c9,ag⟩:=HZ X (zH _);go_cut [5] (λv wc=>∃C m o y,v=.pointer (Sm C 0)/\zG wc C (oC f 0 0 u.i m o y u.b u.d none 0 0)/\Bw X wc/\X.heap.size<=C/\Fm (XQ X wc C) wc m o u.t)
 .go_region_held3 (λW'=>W'.cell? (Ad b 6)=some (Iv u.i)/\W'.cell? (Ad b 263)=some (Iv u.b)/\W'.cell? (Ad b 264)=some (Iv u.d)/\W'.rangeAt b 7 EX)
   ((refine HZ.o _ ?_;repeat with_reducible first|exact E.o|exact zH _|refine Below.drew ?_|refine uD ?_ zD|refine uf ?_ Bi))
   ((go_at_call 111
     with_reducible refine(ac.o _).mono ?_
     rintro e W ⟨m,o,y,rfl,B,k⟩;have HX:=ua B;have E:Hid (Bw X W):=by first|exact uf (zH X).drew k|exact uf (zO X).drew k
     try (have U:Hid (zG W X.heap.size #[Iv 0,Iv 0,Iv 0,Iv 0,nS,Iv 0,Iv 0,nS]):=⟨_,(k.block X.heap.size (by show _<(X.alloc _).heap.size;simp)).trans (Eo X _)⟩;let⟨r0,r1,r2,r3,r4,r5,r6,r7,pk⟩:=U.c8)
     have ad:=ua k.size;clear k B))
  all_goals go_wp2
  .go_meet;exact⟨_,m,o,y,rfl,Eb _,uf E Bi,E.size,(HX.h Bi).g λx ⟨I,O⟩=>⟨I,sO,oM⟩⟩
  go_meet;refine⟨_,m,o,y,rfl,U.s8 _ _ _ _ _ _ _ _,?_,zD,(HX.on ?_).g λx ⟨I,O⟩=>⟨?_,?_,?_⟩⟩
  .repeat with_reducible first|exact E.o|refine uD ?_ zD
  .repeat with_reducible first|exact Xg|refine zS.n ?_ _ _ _ UA
  .exact Nat.le_of_succ_le (by simpa using I)
  .simpa using O
  intro e;subst e;exact UA ⟨I,O⟩
 obtain⟨C,m,o,y,rfl,BO,k,af,B⟩:=hcut;have N:=ua B;clear B;have m3:=ue A.c.c3 k;have m5:=ue A.c.c5 k;have ai:=ue A.c.a k;let⟨z,p,l⟩:=BO.x;unfold oC at z;let⟨zr,pr,lr⟩:=(V.on k).x;have D:=ua (uf Z k);have aj:C≠w.heap.size:=oM;have ak:b≠C:=oM;have al:b≠w.heap.size:=oM;by_cases G:f=0
 .subst G;go_wp2;go_region;all_goals
   go_wp2;refine zL (v:=.agg (oC 0 u.c 0 u.i m o y u.b u.d la u.a.length lc)) ?_ rfl ⟨_,_,_,_,_,_,_,_,_,_,_,_,rfl,F.o,.inl rfl,?_,?_,?_,?_,λ_=>rfl⟩
   .unfold oC;simp[results,f49,go_sem, *]
   .exact λ_=>⟨rfl,rfl,N.l (by repeat with_reducible first|exact Xg|refine zS.i ?_|refine zS.n ?_ _ _ _ HD|refine zS.n ?_ _ _ _ (HF oM)) sM oM⟩
   .exact λ_=>⟨rfl,rfl,_,uA (Y.a.on (λx B=>Below.block (by repeat with_reducible first|exact D.o|refine Below.drew ?_|refine uD ?_ oM) x (Y.lt x (.inr B)))) (λx=>.inl)⟩
   .exact λh=>aB h dC
   repeat with_reducible first|exact D.o|refine Below.drew ?_|refine uD ?_ oM
 have f0:(f==0)=false:=by simp[G]
 have HC:=ua G;by_cases H:f=2
 .subst H;go_wp2;go_region;all_goals
   go_wp2;refine zL (v:=.agg (oC 2 u.c u.s u.i m o y u.b u.d none 0 0)) ?_ rfl ⟨_,_,_,_,_,_,_,_,_,_,_,_,rfl,F.o,.inr (.inr (.inl rfl)),?_,?_,?_,?_,λq=>aB rfl q⟩
   .unfold oC;simp[results,f49,go_sem, *]
   .exact λ_=>⟨rfl,rfl,N.l (by repeat with_reducible first|exact Xg|refine zS.i ?_|refine zS.n ?_ _ _ _ HD|refine zS.n ?_ _ _ _ (HF oM)) sM oM⟩
   .exact λh=>aB h HC.o
   .exact λ_=>⟨rfl,rfl⟩
   repeat with_reducible first|exact D.o|refine Below.drew ?_|refine uD ?_ oM
 have f2:(f==2)=false:=by simp[H]
 have ab:=ua H;clear G H;go_wp2;refine zL (v:=.agg (oC f 0 0 u.i m o y u.b u.d none 0 0)) ?_ rfl ⟨_,_,_,_,_,_,_,_,_,_,_,_,rfl,F.o,HK.o,?_,?_,?_,?_,λ_=>rfl⟩
 .unfold oC;simp[results,f49,go_sem, *]
 .exact λ_=>⟨rfl,rfl,N.l (by repeat with_reducible first|exact Xg|refine zS.i ?_|refine zS.n ?_ _ _ _ HD|refine zS.n ?_ _ _ _ (HF oM)) sM oM⟩
 .exact λh=>aB h HC.o
 .exact λh=>aB h ab.o
 repeat with_reducible first|exact D.o|refine Below.drew ?_|refine uD ?_ oM
open Go.RowKit Go.Shelf
attribute [local go_sem] Oper.semAt_some
def AG(S:Nat->Int)(p:Nat):Array Value:=#[Iv (S (2*p)),Iv (S (2*p+1))]
def HA(a b n:Nat)(k:Nat):Prop:=k=a\/(k=b/\0<n)
def uss(w W:Wl)(n a b:Nat)(J:Nat->World->Prop)(i:Vl)(wr:Wl):Prop :=
 ∃p:Nat,2*p<=n+1/\i=Iv (2*(p:Int)+1)/\J p wr/\W.heap.size<=wr.heap.size/\∀k,HA a b n k->wr.heap[k]?=w.heap[k]?
def UC f a n c S b m w(hn:n<=1048576)(y:w.cell? (Ad f 0)=some (Sl a n c))(Q:0<n->a=some (Ad b m))(O:∀i,i<n->w.cell? (Ad b (m+i))=some (Iv (S i))) :
  US prog 237 #[.pointer (Sm f 0)] (0:Nat) (λp=>2*p+1<n) (λp=>p+1) (AG S) (HA f b n) w:=by
 intro l C J A W af D F aa G ab P B;have ac:Fence.wide.depth=none:=rfl;have o:=ua O;have T:=ud y;have ae:prog.follows .mixedOrders=true:=rR;refine callsIn_of_wp func237 rfl trivial ?_ rfl;simp only[ntmps237,Ma,Db,Iw,Nat.reduceAdd,Nat.reduceSub,Nb,Nc,Nf,Nd,Hm,Fc]
 gi_wp2
 gi_loopw [3] (λi wr=>uss w W n f b J i wr) (λi _=>n+2-(intOf i).toNat)
 .exact⟨0,oM,rfl,B,zD,D⟩
 obtain⟨p,hp,rfl,v,V,g⟩:=hrel;have ag:=(Bd (a:=(Ad f 0)) (g f (.inl rfl))).trans y;by_cases s:2*p+1<n
 .obtain rfl:=Q oM;have c0:=(Bd (a:=(Ad b (m+2*p))) (g b (.inr ⟨rfl,oM⟩))).trans (o (2*p) oM);have c1:=(Bd (a:=(Ad b (m+(2*p+1)))) (g b (.inr ⟨rfl,oM⟩))).trans (o (2*p+1) s);have hlt':2*(p:Int)+1<(n:Int):=oM;have ad:2*(p:Int)<(n:Int):=oM;have t1:(2*(p:Int)).toNat=2*p:=oM;have t2:(2*(p:Int)+1).toNat=2*p+1:=oM;have w1:IntKind.i64.wrap (2*(p:Int)+1-1)=2*(p:Int):=by rw[show 2*(p:Int)+1-1=2*(p:Int) by omega,IntKind.wrap_i64];omega
  have w2:IntKind.i64.wrap (2*(p:Int))=2*(p:Int):=by rw[IntKind.wrap_i64];omega
  have z1:(0:Int)<=2*(p:Int):=oM;have z2:(0:Int)<=2*(p:Int)+1:=oM;have I:=G p wr wr.drew v (zH wr).drew;let⟨fn,tmps,Y,Z,X,N⟩:=P p _ I s;unfold AG at X;have hR':=N.mono (R':=λe z=>∃bv:Bool,e=Rt (.bool bv)/\zA C wr.drew z/\((bv=true/\J (p+1) z)\/(bv=false/\A p z))) (by
   rintro e z (⟨rfl,q,r⟩|⟨rfl,q,r⟩)
   .exact⟨true,rfl,r,.inl ⟨rfl,q⟩⟩
   exact⟨false,rfl,r,.inr ⟨rfl,q⟩⟩)
  have u:=ua g
  gi_wp2
  gi_region_with_o (refine hR'.mono ?_;rintro e z ⟨bv,rfl,t⟩)
  all_goals
   obtain⟨x,t⟩:=t;rcases t with⟨rfl,H⟩|⟨rfl,L⟩
   .have E:∀k,HA f b n k->z.heap[k]?=w.heap[k]?:=λk j=>by
     have R:k<wr.heap.size:=by
      have e:=u k j;have:w.heap[k]?.isSome:=by
       rcases j with rfl|⟨rfl,U⟩
       .simp[T]
       have:=ud (o 0 U);simp[this]
      rw[<-e]at this;rcases Nat.lt_or_ge k wr.heap.size with h|h
      .exact h
      simp[h]at this
     exact(x.d k R (F k j)).trans (u k j)
    gi_wp2
    go_roundw
    .exact⟨p+1,oM,by go_num,H,zP V x.l,E⟩
    simp[intOf];omega
   gi_wp2
   refine zL (results_none rfl _ _ _) rfl ?_;exact⟨⟨_,rfl⟩,.inr ⟨p,s,L⟩⟩
 have hlt':¬2*(p:Int)+1<(n:Int):=oM
 gi_wp2
 go_end0;exact⟨⟨_,rfl⟩,.inl ⟨p,oM,v⟩⟩
def UD{a}{n}{c}{w} :
  CallsIn Fence.wide 0 prog 219 #[Sl a n c] w λe w'=>e=Rt (.func (.func 237) #[] #[.pointer (Sm w.heap.size 0)])/\w'=w.alloc (Oc #[Sl a n c] 25):=by
 refine callsIn_of_wp func219 rfl trivial ?_ rfl;simp only[ntmps219,Ma,Db,Iw,Nat.reduceAdd,Nat.reduceSub,Nb,Nc,Nf,Nd,Hm,Fc]
 gi_wp2
 go_ret;exact⟨rfl,rfl⟩
structure Ga(w:Wl)(y:Nat)(b:Int)(x:Wl):Prop where
 e:x.cell? (Ad y 0)=some (Iv b)
 f:∃v,x.cell? (Ad (y+1) 0)=some v
 c:x.frozen? (Ad (y+1) 0)=false
 q:Below y w x
 l:y+3<=x.heap.size
def Ga.below{w y b x z}(h:Ga w y b x)(a:Below (y+3) x z):Ga w y b z :=
 ⟨(a.cell (p:=(Ad y 0)) (by show y<y+3;omega)).trans h.e,h.f.imp λ_ d=>(a.cell (p:=⟨y+1,0,none⟩) (by show y+1<y+3;omega)).trans d,
  (a.frozen (p:=(Ad (y+1) 0)) (by show y+1<y+3;omega)).trans h.c,h.q.trans (a.mono oM),zP h.l a.size⟩
def Ga.d{w y b x}(h:Ga w y b x)r:Below y w (x.setCell (Ad (y+1) 0) (.bool r))/\y+3<=(x.setCell (Ad (y+1) 0) (.bool r)).heap.size/\(x.setCell (Ad (y+1) 0) (.bool r)).cell? (Ad (y+1) 0)=some (.bool r) :=
 ⟨h.q.setCell (p:=⟨y+1,0,none⟩) (by show y<=y+1;omega) _,by simpa[World.setCell] using h.l,by let⟨v,a⟩:=h.f;exact Jm (by rw[a];rfl)⟩
def ux4(w:Wl)(n:Nat)(S:Nat->Int)(b:Int)(p:Nat)(x:Wl):Prop:=Ga w w.heap.size b x/\2*p<=n+1/\yj S b p=false
def ux5(w:Wl)(n:Nat)(S:Nat->Int)(b:Int)(p:Nat)(x:Wl):Prop :=
 Bw w x/\w.heap.size+3<=x.heap.size/\x.cell? (Ad (w.heap.size+1) 0)=some Bt/\2*p+1<n/\yj S b (p+1)=true
def UE a n c S b z D w(hn:n<=1048576)(ha:0<n->a=some (Ad z D))(X:∀i,i<n->w.cell? (Ad z (D+i))=some (Iv (S i))) :
  CallsIn Fence.wide 0 prog 200 #[Sl a n c,Iv b] w (Sq (vq n S b) w):=by
 have ak:Fence.wide.depth=none:=rfl;have HS:=ua X;have aa:0<n->z<w.heap.size:=λh=>ud (X 0 h);refine callsIn_of_wp_marks func200 rfl trivial ?_ rfl;simp only[ntmps200,Ma,Db,Iw,Nat.reduceAdd,Nat.reduceSub,Nb,Nc,Nf,Nd,Hm,Fc]
 gi_wp2_with (refine⟨trivial,?_⟩;gi_at_call 219;refine(UD).mono ?_;rintro e w' ⟨rfl,rfl⟩)
 let⟨r,j⟩:=nm (((w.alloc (Oc #[Value.int IntKind.i64 b] 3)).alloc (Oc #[Bf] 4)).alloc (Oc #[Sl a n c] 25));have au:r.heap.size=w.heap.size+3:=by rw[<-j];simp
 have W:Bw w r:=by rw[<-j];exact(((zH w).alloc zD _).alloc sM _).alloc sO _
 have Y:=jw w (Iv b) 3;have T:=jw (w.alloc (Oc #[Value.int IntKind.i64 b] 3)) Bf 4;have ab:=AJ (w.alloc (Oc #[Value.int IntKind.i64 b] 3)) Bf 4;have U:=jw ((w.alloc (Oc #[Value.int IntKind.i64 b] 3)).alloc (Oc #[Bf] 4)) (Sl a n c) 25;simp only[Ck]at Y T ab U;rw[j]at U;have aj:Ga w w.heap.size b r:=⟨by rw[<-j];exact uG _ (uG _ Y),⟨_,by rw[<-j];exact uG _ T⟩,by rw[<-j];exact Xd T ab,W,oM⟩;have sW:∀i,i<n->r.cell? (Ad z (D+i))=some (Iv (S i)):=λi hi=>ue (HS i hi) W;rw[j];refine UU (gf:=237) (lb:=#[.pointer (Sm (w.heap.size+1+1) 0)]) rfl (enters_of func237 rR rfl)
  (UC (w.heap.size+1+1) a n c S z D r hn U ha sW) (λ_=>rfl) ?hD (λk=>k=w.heap.size+1) ?hCD (λk hk O=>oM)
  (ux4 w n S b) (ux5 w n S b) ?hI ?hIx ⟨aj,oM,rfl⟩ ?round ?done ?stop
 case hD =>
  rintro k (rfl|⟨rfl,Q⟩)
  .omega
  have:=aa Q;omega
 case hCD =>
  rintro k (rfl|⟨rfl,Q⟩) O
  .omega
  have:=aa Q;omega
 case hI =>
  rintro s A E ⟨g,R⟩ t;exact⟨g.below (t.mono oM),R⟩
 case hIx =>
  rintro s A E ⟨N,hs,O,R⟩ t;exact⟨N.trans (t.mono oM),zP hs t.size,(t.cell (p:=(Ad (w.heap.size+1) 0)) (by show w.heap.size+1<_;omega)).trans O,R⟩
 case round =>
  intro l' p x an ao ac ae;unfold AG
  gi_wp2
  refine⟨Cc,ac,?_⟩;rintro x2 am ap ⟨g,Z,l⟩;let⟨rv,k1⟩:=g.f;have k2:=g.c;have k3:=g.e;have V:=ua l;have F:=ua g;let⟨u,hu⟩:=nm (S (2*p));let⟨v,hv⟩:=nm (S (2*p+1));have G:=ua hu;have H:=ua hv;rw[hu,hv];have af:=ae;by_cases q1:u<=b
  .by_cases q2:b<=v
   .have o:Hid (yj S b (p+1)=true):=by show _=_;rw[yj,G.o,H.o];simp[q1,q2]
    gi_wp2
    let⟨I,J,L⟩:=F.d true;exact⟨Dh rfl,I,J,L,af,o⟩
   have o:Hid (yj S b (p+1)=false):=by show _=_;rw[yj,G.o,H.o,V.o];simp[q2]
   gi_wp2
   exact⟨Cc,F,oM,o⟩
  have o:Hid (yj S b (p+1)=false):=by show _=_;rw[yj,G.o,H.o,V.o];simp[q1]
  gi_wp2
  exact⟨Cc,F,oM,o⟩
 case done =>
  rintro d p x hd ah ⟨g,Z,l⟩ C;let⟨rv,k1⟩:=g.f;have k2:=g.c;have hnm':=ah
  gi_wp2
  have ag:d≠w.heap.size+1:=oM;have hK':(x.setCell (Ad (w.heap.size+1) 0) Bf).heap[d]?=some (.deferred (some [])):=(Na x (Ad (w.heap.size+1) 0) _ d ag).trans C;refine⟨sM,.inl ⟨_,_,rfl,run_takeDeferred hK',?_⟩⟩;let⟨I,J,L⟩:=g.d false;have y:=qf (B:=w.heap.size+3) (x.setCell (Ad (w.heap.size+1) 0) Bf) (.deferred none) (d:=d) oM J;have P:=(y.cell (p:=(Ad (w.heap.size+1) 0)) (by show w.heap.size+1<_;omega)).trans L;have hF:vq n S b=false:=by
   unfold vq;cases q:yj S b (n / 2) with
   |false=>rfl
   |true=>rw[BQ S b oM q]at l;cases l
  refine⟨Bf,?_,by rw[hF],I.trans (y.mono oM)⟩;simp[results,f200,go_sem,P]
 case stop =>
  rintro d p x hd aq ⟨N,ai,ad,Z,l⟩ C
  gi_wp2
  refine⟨sM,.inl ⟨_,_,rfl,run_takeDeferred C,?_⟩⟩;have al:=(Gw.1 C).1;have y:=qf (B:=w.heap.size+3) x (.deferred none) (d:=d) oM ai;have P:=(y.cell (p:=(Ad (w.heap.size+1) 0)) (by show w.heap.size+1<_;omega)).trans ad;have hT:vq n S b=true:=BQ S b (m:=p+1) oM l;refine⟨Bt,?_,by rw[hT],N.trans (y.mono oM)⟩;simp[results,f200,go_sem,P]
def unA Q a n c S b w(e:n<=1048576)(d:Ints Q .i64 w a n S) :
  Cs 200 #[Sl a n c,Iv b] w (Sq (vq n S b) w):=by
 rcases d with rfl|⟨f,g,rfl,j,d⟩
 .exact callsIn_wide.1 (UE a 0 c S b 0 0 w e (λh=>aB h oM) (λi h=>aB h oM))
 exact callsIn_wide.1 (UE _ n c S b f g w e (λ_=>rfl) d)
attribute [local go_sem] Oper.semAt_some
def kS(f:Nat->Int):Nat->Int
 |0=>0
 |n+1=>kS f n+f n
def TE f g n:kS (λj=>f j+g j) n=kS f n+kS g n:=by
 induction n with
 |zero=>rfl
 |succ n a=>rw[kS,kS,kS,a];omega
def TF n:kS (λ_=>0) n=0:=by
 induction n with
 |zero=>rfl
 |succ n a=>rw[kS,a];rfl
def TH c k n:kS (λj=>if j=k then c else 0) n=if k<n then c else 0:=by
 induction n with
 |zero=>simp[kS]
 |succ n d =>
  rw[kS,d];by_cases h:k<n
  .have a:k<n+1:=oM;have b:¬n=k:=oM;simp[h,a,b]
  by_cases e:n=k
  .subst e;simp
  have a:¬k<n+1:=oM;simp[h,a,e]
def Mp(S:Nat->Int)(p:Nat):Int:=max (S (2*p)) 0
def Mq(S:Nat->Int)(p:Nat):Int:=min (S (2*p+1)) 255
def Kt(S:Nat->Int)(p i:Nat):Int :=
 if Mp S p<=Mq S p then (if i=(Mp S p).toNat then 1 else 0)+(if i=(Mq S p).toNat+1 then -1 else 0) else 0
def Er(S:Nat->Int):Nat->Nat->Int
 |0,_=>0
 |p+1,i=>Er S p i+Kt S p i
def AE S:∀(p i:Nat),-(p:Int)<=Er S p i/\Er S p i<=p
 |0,i=>⟨Ft _,Ft _⟩
 |p+1,i=>by
  have:=AE S p i;rw[Er];unfold Kt;split
  .split<;>split<;>omega
  omega
def usq S p b(g:b<256):kS (Kt S p) (b+1)=if S (2*p)<=b/\(b:Int)<=S (2*p+1) then 1 else 0:=by
 by_cases h:Mp S p<=Mq S p
 .have e:Kt S p=λi=>(if i=(Mp S p).toNat then 1 else 0)+(if i=(Mq S p).toNat+1 then -1 else 0):=by funext i;unfold Kt;rw[Zp h]
  rw[e,TE,TH,TH];have d:0<=Mp S p:=Int.le_max_right _ _;have f:Mq S p<=255:=Int.min_le_right _ _;unfold Mp Mq at *;by_cases a:S (2*p)<=b
  .by_cases c:(b:Int)<=S (2*p+1)
   .rw[Zp oM,Zn oM,Zp ⟨a,c⟩];rfl
   rw[Zp oM,Zp oM,Zn (λq=>c q.2)];rfl
  rw[Zn oM,Zn oM,Zn (λq=>a q.1)];rfl
 have e:Kt S p=λi=>0:=by funext i;unfold Kt;rw[Zn h]
 rw[e,TF];unfold Mp Mq at h;rw[Zn];rintro⟨a,c⟩;omega
def TI S b(a:b<256):∀p:Nat,0<=kS (Er S p) (b+1)/\(0<kS (Er S p) (b+1)↔yj S (b:Int) p=true)
 |0=>by
  have e:Er S 0=λ_=>0:=rfl;rw[e,TF];simp[yj]
 |p+1=>by
  let⟨d,c⟩:=TI S b a p;have e:Er S (p+1)=λi=>Er S p i+Kt S p i:=rfl;rw[e,TE,usq S p b a,yj];by_cases q:S (2*p)<=b/\(b:Int)<=S (2*p+1)
  .rw[Zp q];refine⟨oM,λ_=>?_,λ_=>oM⟩;simp[q.1,q.2]
  rw[Zn q];refine⟨oM,?_⟩;rw[Int.add_zero,c];have:(decide (S (2*p)<=(b:Int))&&decide ((b:Int)<=S (2*p+1)))=false:=by
   simp only[Bool.and_eq_false_iff,decide_eq_false_iff_not];by_cases r:S (2*p)<=(b:Int)
   .exact .inr (λr2=>q ⟨r,r2⟩)
   exact .inl r
  rw[this,Qx]
def TJ S p:∀n:Nat,-((n*p:Nat):Int)<=kS (Er S p) n/\kS (Er S p) n<=((n*p:Nat):Int)
 |0=>by simp[kS]
 |n+1=>by
  have a:=TJ S p n;have b:=AE S p n;rw[kS,Hp,Nat.one_mul,Te];omega
def usr:(prog.info? 332).map (λi=>(i.zero,i.size))=some (some (.agg (madeCells #[Iv 0] 257)),257):=rR
structure Fz(w:Wl)(f:Nat->Int)(x:Wl):Prop where
 g:x.rowIs w.heap.size 332 257 (λi=>Iv (f i))
 q:Bw w x
 l:w.heap.size+2<=x.heap.size
def Fz.below{w f x z}(h:Fz w f x)(a:Below (w.heap.size+2) x z):Fz w f z :=
 ⟨h.g.of_block (a.block _ oM),h.q.trans (a.mono oM),zP h.l a.size⟩
def adI(w:Wl)(n:Nat)(S:Nat->Int)(p:Nat)(x:Wl):Prop:=Fz w (Er S p) x/\2*p<=n
structure GY(mb o:Nat)(N:Nat->Bool)(w:Wl)(e:Ending)(w':Wl):Prop where
 k:∃v,e=Rt v
 f:∀i,i<256->w'.cell? (Ad mb (o+i))=some (.bool (N i))
 b:∀j,(j<o\/o+256<=j)->w'.cell? (Ad mb j)=w.cell? (Ad mb j)
 a:∀j,w'.frozen? (Ad mb j)=w.frozen? (Ad mb j)
 m:Kept (λx=>x=mb) w w'
structure Rz(w:Wl)(mb o k:Nat)(S:Nat->Int)(p:Nat)(M:Nat->Bool)(d:Nat)(x:Wl):Prop where
 g:x.rowIs w.heap.size 332 257 (λi=>Iv (Er S p i))
 f:∀i,i<256->x.cell? (Ad mb (o+i))=some (.bool (if i<k then yj S (i:Int) p||M i else M i))
 b:∀j,(j<o\/o+256<=j)->x.cell? (Ad mb j)=w.cell? (Ad mb j)
 a:∀j,x.frozen? (Ad mb j)=w.frozen? (Ad mb j)
 m:Kept (λx=>x=mb) w x
 l:w.heap.size+2<=x.heap.size
 dd:x.heap[d]?=some (.deferred (some []))
def adL(w:Wl)(b o:Nat)(S:Nat->Int)(p:Nat)(M:Nat->Bool)(d:Nat)(c a:Vl)(x:Wl):Prop :=
 ∃k:Nat,k<=256/\a=Iv (k:Int)/\c=Iv (kS (Er S p) k)/\Rz w b o k S p M d x
def Rz.c{w n o k S p M d x}(h:Rz w n o k S p M d x)(z:k<256)(A:n<w.heap.size)(y:w.heap.size+2<=d)(u:yj S (k:Int) p=true):Rz w n o (k+1) S p M d (x.setCell (Ad n (o+k)) Bt):=by
 refine⟨h.g.of_block (Bn (by show w.heap.size≠n;omega)),λi r=>?_,λj v=>?_,λj=>Jn.trans (h.a j),⟨h.m.os,h.m.g,h.m.f,by rw[uh];exact h.m.l,λb t s=>(Bn s).trans (h.m.d b t s)⟩,by rw[uh];exact h.l,(Bn (by show d≠n;omega)).trans h.dd⟩
 .by_cases e:i=k
  .subst e;rw[uC (h.f i r),Zp oM,u];rfl
  rw[uu oM,h.f i r];by_cases q:i<k
  .rw[Zp q,Zp oM]
  rw[Zn q,Zn oM]
 rw[uu oM];exact h.b j v
def Rz.no{w c o k S p M d x}(h:Rz w c o k S p M d x)(r:k<256)(j:yj S (k:Int) p=false):Rz w c o (k+1) S p M d x:=by
 refine⟨h.g,λi n=>?_,h.b,h.a,h.m,h.l,h.dd⟩;rw[h.f i n];by_cases e:i=k
 .subst e;rw[Zn oM,Zp oM,j,Qz]
 by_cases q:i<k
 .rw[Zp q,Zp oM]
 rw[Zn q,Zn oM]
def TK(t o:Nat)(M:Nat->Bool)(a:Oa)(n c:Nat)(S:Nat->Int)(sb so:Nat)(w:Wl)(hn:n<=1048576)(ha:0<n->a=some (Ad sb so))(hS:∀i,i<n->w.cell? (Ad sb (so+i))=some (Iv (S i)))
  (hM:∀i,i<256->w.cell? (Ad t (o+i))=some (.bool (M i))) (hF:∀j,w.frozen? (Ad t j)=false) :
  CallsIn Fence.wide 0 prog 220 #[.pointer (Sm t o),Sl a n c] w (GY t o (λi=>vq n S (i:Int)||M i) w):=by
 have ay:Fence.wide.depth=none:=rfl;have HS:=ua hS;have HM:=ua hM;have HF:=ua hF;have al:0<n->sb<w.heap.size:=λh=>ud (hS 0 h);have ag:=ud (hM 0 oM);have hz:=(zero_of_info (P:=prog) usr).1;refine callsIn_of_wp_marks func220 rfl trivial ?_ rfl;simp only[ntmps220,Ma,Db,Iw,Nat.reduceAdd,Nat.reduceSub,Nb,Nc,Nf,Nd,Hm,Fc]
 gi_wp2_with (refine⟨trivial,?_⟩;gi_at_call 219;refine(UD).mono ?_;rintro e w' ⟨rfl,rfl⟩)
 let⟨X,Y⟩:=nm ((w.alloc (Oc (madeCells #[Value.int IntKind.i64 0] 257) 332)).alloc (Oc #[Sl a n c] 25));have a6:X.heap.size=w.heap.size+2:=by rw[<-Y];simp
 have aj:Bw w X:=by rw[<-Y];exact Bm w
 have hm:=Kh w (Iv 0) 257 332;have hx:=jw (w.alloc (Oc (madeCells #[Value.int IntKind.i64 0] 257) 332)) (Sl a n c) 25;simp only[Ck]at hx;rw[Y]at hx;have ax:Fz w (Er S 0) X:=⟨by rw[<-Y];exact(hm.alloc _).congr (λi H=>rfl),aj,oM⟩;have sW:∀i,i<n->X.cell? (Ad sb (so+i))=some (Iv (S i)):=λi H=>ue (HS i H) aj;rw[Y];refine UU (gf:=237) (lb:=#[.pointer (Sm (w.heap.size+1) 0)]) rfl (enters_of func237 rR rfl)
  (UC (w.heap.size+1) a n c S sb so X hn hx ha sW) (λ_=>rfl) ?hD (λk=>k=w.heap.size) ?hCD (λk hk hc=>oM)
  (adI w n S) (λ_ _=>False) ?hI (λ_ _ _ h _=>h) ⟨ax,oM⟩ ?round ?done (λ_ _ _ _ _ h _=>h.elim)
 case hD =>
  rintro k (rfl|⟨rfl,af⟩)
  .omega
  have:=al af;omega
 case hCD =>
  rintro k (rfl|⟨rfl,af⟩) hc
  .omega
  have:=al af;omega
 case hI =>
  rintro s A E ⟨T,hp⟩ ap;exact⟨T.below (ap.mono oM),hp⟩
 case round =>
  intro l' p x a1 a2 an R;unfold AG
  gi_wp2
  refine⟨Cc,an,?_⟩;rintro D a0 a5 ⟨T,aq⟩;have a3:=R;have y:=ua T;have hb:=AE S p;have hp':p<=1048576:=oM;have aa:=T.g;let⟨u,O⟩:=nm (S (2*p));let⟨v,U⟩:=nm (S (2*p+1));have J:Hid (Mp S p=max u 0):=by show _=_;rw[<-O];rfl
  have I:Hid (Mq S p=min v 255):=by show _=_;rw[<-U];rfl
  rw[O,U];have av:∀(l h:Nat),Mp S p=l->Mq S p=h->l<=h->h<=255 ->
    ∃z F:Int,D.cell? (Ad w.heap.size l)=some (Iv z)/\D.cell? (Ad w.heap.size (h+1))=some (Iv F)/\-1048576<=z/\z<=1048576/\-1048576<=F/\F<=1048576 /\
     D.frozen? (Ad w.heap.size l)=false/\D.frozen? (Ad w.heap.size (h+1))=false /\
     Fz w (Er S (p+1)) ((D.setCell (Ad w.heap.size l) (Iv (z+1))).setCell (Ad w.heap.size (h+1)) (Iv (F-1))):=λl h e1 e2 ak h5=>by
   refine⟨Er S p l,Er S p (h+1),aa.cell oM,aa.cell oM,by have:=hb l;omega,by have:=hb l;omega,by have:=hb (h+1);omega,by have:=hb (h+1);omega,aa.frozen _,aa.frozen _,?_⟩;have hd:∀i,Er S (p+1) i=Er S p i+((if i=l then 1 else 0)+(if i=h+1 then -1 else 0)):=λi=>by
    show Er S p i+Kt S p i=_;unfold Kt;rw[Zp (by rw[e1,e2];omega),e1,e2];rfl
   refine⟨((aa.set l _).set (h+1) _).congr (λi H=>?_),(y.q.setCell (p:=(Ad w.heap.size l)) zD _).setCell (p:=(Ad w.heap.size (h+1))) zD _,by rw[uh,uh];exact y.l⟩;rw[hd i];by_cases q1:i=h+1
   .have V:¬i=l:=oM;subst q1;simp[V];omega
   by_cases V:i=l
   .subst V;simp[q1]
   simp[q1,V]
  have aw:¬Mp S p<=Mq S p->Fz w (Er S (p+1)) D:=λak=>by
   have e:Er S (p+1)=Er S p:=by
    funext i;show Er S p i+Kt S p i=_;unfold Kt;rw[Zn ak,Int.add_zero]
   rw[e];exact y
  have ac:=av;have ae:=ua aw;have lx:w.heap.size<D.heap.size:=oH y.l;have ab:Hid (∀(l h:Nat) (v1 v2:Vl),zA (λk=>k=w.heap.size) D ((D.setCell (Ad w.heap.size l) v1).setCell (Ad w.heap.size h) v2)):=λl h v1 v2=>(zA.b (C:=λk=>k=w.heap.size) _ (Ad w.heap.size l) _ rfl).c (zA.b (C:=λk=>k=w.heap.size) _ (Ad w.heap.size h) _ rfl);by_cases q1:u<0
  .by_cases V:255<v
   .skip
    let⟨z,F,k1,k2,r1,r2,r3,r4,g1,g2,N⟩:=ac 0 255 (by rw[J.o];omega) (by rw[I.o];omega) oM oM;have r:=ua N
    gi_wp2
    exact⟨ab _ _ _ _,r,oM⟩
   by_cases q3:0<=v
   .obtain⟨h,rfl⟩:=Rb q3;have q4:(h:Int)+1<257:=oM;have q5:((h:Int)+1).toNat=h+1:=oM;let⟨z,F,k1,k2,r1,r2,r3,r4,g1,g2,N⟩:=ac 0 h (by rw[J.o];omega) (by rw[I.o];omega) oM oM;have r:=ua N
    gi_wp2
    exact⟨ab _ _ _ _,r,oM⟩
   skip
   have r:=ae (by rw[J.o,I.o];omega)
   gi_wp2
   exact⟨Cc,r,oM⟩
  obtain⟨l,rfl⟩:=Rb (show 0<=u by omega);by_cases V:255<v
  .by_cases q3:l<=255
   .have q4:(l:Int)<=255:=oM;have q5:(l:Int)<257:=oM;let⟨z,F,k1,k2,r1,r2,r3,r4,g1,g2,N⟩:=ac l 255 (by rw[J.o];omega) (by rw[I.o];omega) oM oM;have r:=ua N
    gi_wp2
    exact⟨ab _ _ _ _,r,oM⟩
   have q4:¬(l:Int)<=255:=oM;have r:=ae (by rw[J.o,I.o];omega)
   gi_wp2
   exact⟨Cc,r,oM⟩
  by_cases q3:(l:Int)<=v
  .obtain⟨h,rfl⟩:=Rb (show 0<=v by omega);have q4:(h:Int)+1<257:=oM;have q5:((h:Int)+1).toNat=h+1:=oM;have q6:(l:Int)<257:=oM;have ne:l≠h+1:=oM;let⟨z,F,k1,k2,r1,r2,r3,r4,g1,g2,N⟩:=ac l h (by rw[J.o];omega) (by rw[I.o];omega) oM oM;have r:=ua N
   gi_wp2
   exact⟨ab _ _ _ _,r,oM⟩
  skip
  have r:=ae (by rw[J.o,I.o];omega)
  gi_wp2
  exact⟨Cc,r,oM⟩
 case done =>
  rintro d p x hd au ⟨T,aq⟩ hK;have hnm':=au;have az:=(Gw.1 hK).1;have y:=ua T;have hp':p<=1048576:=oM
  gi_wp2
  gi_loopw [7,31] (λov iv wr=>adL w t o S p M d ov iv wr) (λov iv _=>256-(intOf iv).toNat)
  .exact⟨0,oM,rfl,rfl,⟨y.g,λi H=>by rw[Zn oM];exact ue (HM i H) y.q,λj hj=>y.q.cell (p:=(Ad t j)) ag,λj=>y.q.frozen (p:=(Ad t j)) ag,Kept.of y.q,y.l,hK⟩⟩
  obtain⟨k,hk,rfl,rfl,Q⟩:=hrel;have L:=ua Q;by_cases R:k<256
  .have c0:=Q.g.cell (i:=k) oM;have lx:=ud c0;have z:=Q.f k R;have f1:=(Q.a (o+k)).trans (HF _);have b1:=AE S p k;have b2:=TJ S p k;have b4:((k*p:Nat):Int)<=268435456:=by
    have:k*p<=256*1048576:=Nat.mul_le_mul oM hp';omega
   have ah:=TI S k R p;have lm:=ud z;have hlt':(k:Int)<256:=oM;have a4:(k:Int)<257:=oM;let⟨u,O⟩:=nm (kS (Er S p) k);let⟨v,U⟩:=nm (Er S p k);have HE:Hid (kS (Er S p) (k+1)=u+v):=(by show kS (Er S p) k+Er S p k=_;rw[O,U]);rw[HE.o]at ah;rw[O]at b2;rw[U]at b1 c0;rw[O];have v1 : -1048576<=v:=oM;have v2:v<=1048576:=oM;have u1 : -268435456<=u:=oM;have u2:u<=268435456:=oM;have ai:=ua ah.2;clear O U b1 b2 b4 ah Q;by_cases am:0<u+v
   .have W:=L.c R ag oM (ai.1 am);have ad:=ua W;clear W
    gi_wp2
    go_roundw
    .exact⟨k+1,oM,by go_num,by rw[HE.o],ad⟩
    simp[intOf];omega
   have W:=L.no R (by cases q:yj S (k:Int) p with|false=>rfl|true=>exact aB (ai.2 q) am);have ad:=ua W;clear W
   gi_wp2
   go_roundw
   .exact⟨k+1,oM,by go_num,by rw[HE.o],ad⟩
   simp[intOf];omega
  obtain rfl:k=256:=oM;have ao:=Q.dd
  gi_wp2
  refine⟨sM,.inl ⟨_,_,rfl,run_takeDeferred ao,?_⟩⟩;have G:=qf (B:=w.heap.size+2) wr (.deferred none) (d:=d) oM L.l;have hq:∀i:Nat,vq n S (i:Int)=yj S (i:Int) p:=λi=>by
   unfold vq;rw[show n / 2=p by omega]
  refine⟨_,results_none rfl _ _ _,⟨_,rfl⟩,λi H=>?_,λj hj=>(G.cell (p:=(Ad t j)) (by show t<_;omega)).trans (L.b j hj),λj=>(G.frozen (p:=(Ad t j)) (by show t<_;omega)).trans (L.a j),?_⟩
  .rw[G.cell (p:=(Ad t (o+i))) (by show t<_;omega),L.o.f i H,Zp H,hq i]
  have Z:=L.m;exact⟨G.os.trans Z.os,G.tape.trans Z.g,G.output.trans Z.f,zP Z.l G.size,λx hx hn=>(G.block x oM).trans (Z.d x hx hn)⟩
def TL(Q:Np)(b o:Nat){M:Nat->Bool}(a:Oa)(n c:Nat)(S:Nat->Int){w:Wl}(g:n<=1048576)(d:Ints Q .i64 w a n S)(f:∀i,i<256->w.cell? (Ad b (o+i))=some (.bool (M i)))(e:∀j,w.frozen? (Ad b j)=false) :
  Cs 220 #[.pointer (Sm b o),Sl a n c] w (GY b o (λi=>vq n S (i:Int)||M i) w):=by
 rcases d with rfl|⟨k,l,rfl,m,d⟩
 .exact callsIn_wide.1 (TK b o M a 0 c S 0 0 w g (λh=>aB h oM) (λi h=>aB h oM) f e)
 exact callsIn_wide.1 (TK b o M _ n c S k l w g (λ_=>rfl) d f e)
end Go.Proofs.YtmlblamikgkdcaaGreat
