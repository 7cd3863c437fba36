import Derived.Test.YtmlblamikgkdcaaGreatT02
import Derived.Deep.RegionLaw
set_option linter.unusedVariables false
set_option linter.unusedSimpArgs false
set_option linter.defProp false
set_option maxHeartbeats 40000000
set_option maxRecDepth 100000
namespace Go.Proofs.YtmlblamikgkdcaaGreat
open Go.RowKit
open Go.Proofs.Tryz
def Mz(L:List Nat):List Value:=L.map (λ(x:Nat)=>Iv (x:Int))
def CO L:(Mz L).length=L.length:=by simp[Mz]
def LH(L:List Nat)(x:Nat):Mz (L++[x])=Mz L++[Iv (x:Int)]:=by simp[Mz]
structure WL(Q:Np)(w:Wl)(wb:Nat)(L:List Nat):Prop where
 k:∃v,w.cell? (Ad wb 0)=some v/\zB Q w v 1 L.length (Mz L)
 r:w.frozen? (Ad wb 0)=false
def WL.lt{Q w a L}(h:WL Q w a L):a<w.heap.size:=by
 let⟨v,h,_⟩:=h.k;exact ud h
def WL.on{Q w w' c L}(h:WL Q w c L)(k:zS (λb=>Q b\/b=c) w w'):WL Q w' c L:=by
 let⟨v,d,e⟩:=h.k;refine⟨⟨v,(k.p (.inr rfl)).trans d,e.on (λb f=>k b (.inl f))⟩,?_⟩;rw[Dp (a:=(Ad c 0)) (k c (.inr rfl))];exact h.r
def urf(m:Nat)(h:m<=1048576):IntKind.i64.wrap (m:Int)=(m:Int):=by
 simp[IntKind.wrap,IntKind.bits,IntKind.signed];omega
structure uxL(Q:Np)(wb x:Nat)(L:List Nat)(w:Wl)(e:Ending)(w':Wl):Prop where
 ret:∃v,e=Rt v
 list:WL (λb=>Q b\/w.heap.size<=b) w' wb (L++[x])
 a:zT (λb=>Q b\/b=wb) w w'
def D9{Q}(i x:Nat)L{w}(u:WL Q w i L)(C:¬Q i)(P:L.length<=1048576) :
  Cs 152 #[.pointer (Sm i 0),Iv (x:Int)] w (uxL Q i x L w):=by
 let⟨v,D,B⟩:=u.k;have I:=u.r;have O:i<w.heap.size:=ud D;have E:Hid (zB Q w v 1 L.length (Mz L)):=B;clear B u;have H:Hid (zB Q (w.alloc (Oc #[Iv x] 3)) v 1 L.length (Mz L)):=xd E.o oM (zO w);have G:Hid (i<(w.alloc (Oc #[Iv x] 3)).heap.size):=by show _<_;simp;omega
 go_enter func152,ntmps152;go_wp2_with (at_builtin;refine jM rfl _ _ 25 25 rfl rfl rfl jE H (qg (us:=[Iv x]) underlying25 rfl rfl rfl) oM ?_;intro R W A y N;obtain⟨t,c',rfl⟩:=uj A;have z:=(y.d i G C).trans (Iu w (Oc #[Iv x] 3) i O);have hv':W.cell? (Ad i 0)=some v:=(Bd (a:=(Ad i 0)) z).trans D;have hs':W.frozen? (Ad i 0)=false:=(Dp (a:=(Ad i 0)) z).trans I;have HO':Hid (zB (λb=>Q b\/(w.alloc (Oc #[Iv x] 3)).heap.size<=b) W (Sl t (L.length+1) c') 1 (L.length+1) (Mz L++[Iv x])):=A;have m:Hid (zT (λb=>Q b) (w.alloc (Oc #[Iv x] 3)) W):=y;clear A y N z);go_end0;have J:=m.l;rw[Ck]at J;refine⟨⟨_,rfl⟩,⟨⟨Sl t (L.length+1) c',uC hv',?_⟩,?_⟩,?_⟩
 .rw[LH,zJ];have:zB (λb=>Q b\/w.heap.size<=b) W (Sl t (L.length+1) c') 1 (L.length+1) (Mz L++[Iv x]):=by
   rcases HO'.o with h|⟨g,cap,p,j,F⟩
   .exact .inl h
   refine .inr ⟨g,cap,p,?_,F⟩;rcases j with j|j
   .exact .inl j
   rw[Ck]at j;exact .inr oM
  exact this.on (λb s=>Gz b (λe=>by
   simp only at e;subst e;rcases s with s|s
   .exact C s
   omega))
 .rw[Et];exact hs'
 refine⟨m.os,m.g,m.f,by simp[World.setCell];omega,λb p j=>?_,λb o p=>?_,λb o p j=>?_⟩
 .rw[Gz b (λe=>j (.inr e)),m.o.d b (by rw[Ck];omega) (λq=>j (.inl q)),Jo p]
 .rw[Et,m.o.n b o (by rw[Ck];omega)];exact Dp (a:=(Ad b o)) (Jo p)
 rw[Et];rw[uh]at j;by_cases e:b=w.heap.size
 .subst e;rw[m.o.n _ o (by rw[Ck];omega)];exact qU w 3 w.heap.size o zD sM
 exact m.c b o (by rw[Ck];omega) j
def ulu(L:List Nat):L = []\/∃a x,L=a++[x]:=by
 rcases List.eq_nil_or_concat L with h|⟨a,x,h⟩
 .exact .inl h
 exact .inr ⟨a,x,by simpa using h⟩
def tkN Q f w(b:WL Q w f []) :
  Cs 153 #[.pointer (Sm f 0)] w λe w'=>e=Rt (.tuple #[Iv 0,Bf])/\w'=w:=by
 let⟨v,g,d⟩:=b.k;obtain⟨a,c,rfl⟩:=uj d;clear d b;go_enter func153,ntmps153;go_wp2;refine zL (by simp[results,f153,go_sem];rfl) rfl ?_;exact⟨rfl,rfl⟩
structure uyo(Q:Np)(wb x:Nat)(L:List Nat)(w:Wl)(e:Ending)(w':Wl):Prop where
 ret:e=Rt (.tuple #[Iv (x:Int),Bt])
 list:WL Q w' wb L
 a:zT (λb=>b=wb) w w'
def tkS Q c x L w(i:WL Q w c (L++[x]))(t:¬Q c)(z:L.length<=1048576) :
  Cs 153 #[.pointer (Sm c 0)] w (uyo Q c x L w):=by
 let⟨v,n,A⟩:=i.k;have B:=i.r;rcases A with⟨_,h,_⟩|⟨g,cap,rfl,a,d,q,f,s⟩
 .simp at h
 rw[zJ]at n d q;simp only[Db,Iw,Bp]at n d q;have C:w.cell? (Ad g L.length)=some (Iv x):=by
  rw[f L.length (by rw[d];omega),LH,Fb (by rw[CO];exact zD),CO];simp
 have u:=ua f;have y:=ua s;have D:((L.length+1:Nat):Int)-1=(L.length:Int):=oM;have E:¬cap=0:=oM;have F:L.length<=cap:=oM;have G:¬((L.length:Int)<0):=oM;have H:=urf L.length z;clear i f s d;go_enter func153,ntmps153;go_wp2;refine zL (by simp[results,f153,go_sem];rfl) rfl ?_;refine⟨rfl,⟨⟨_,uC n,.inr ⟨g,cap,rfl,a,by rw[CO,Pb],oM,λj l=>?_,λj l=>?_⟩⟩,?_⟩,?_⟩
 .have m:g≠c:=λe=>t (e▸a);rw[yP (Ne.symm m),u.o j (by rw[CO]at *;simp;omega),LH,Es l]
 .have m:g≠c:=λe=>t (e▸a);rw[yP (Ne.symm m),Et];exact y j l
 .rw[Et];exact B
 refine⟨rfl,rfl,rfl,by rw[uh];exact zD,λb p a=>Gz b (λe=>a e),λb o p=>by rw[Et],λb o p a=>?_⟩;rw[uh]at a;omega
open M (OpD ug Gr uw)
def rg(M:Nat->Bool):Nat->List Int
 |0=>[]
 |b+1=>rg M b++((if M b&&(b==0||!M (b-1)) then [(b:Int)] else [])++(if M b&&(b==255||!M (b+1)) then [(b:Int)] else []))
def ZF M b:rg M (b+1)=rg M b++((if M b&&(b==0||!M (b-1)) then [(b:Int)] else [])++(if M b&&(b==255||!M (b+1)) then [(b:Int)] else [])):=rfl
def Uu M b:(rg M b).length<=2*b:=by
 induction b with
 |zero=>exact zD
 |succ b e =>
  rw[rg,zJ,zJ];have:∀(c:Bool),(if c then [(b:Int)] else []).length<=1:=λc=>by cases c<;>simp
  have a:=this (M b&&(b==0||!M (b-1)));have d:=this (M b&&(b==255||!M (b+1)));omega
def vL(a:LI):List Value:=a.map (λz=>Iv z)
def Br(w0 w:Wl)(v:Vl)(l:LI):Prop:=∃P,zB P w v 1 l.length (vL l)/\(∀b,P b->w0.heap.size<=b/\b<w.heap.size)/\Bw w0 w
def Br.q{w0 w v l}(h:Br w0 w v l):Bw w0 w:=let⟨_,_,_,h⟩:=h;h
def Br.nil{w0 w}(h:Bw w0 w):Br w0 w nS []:=⟨λ_=>False,.inl ⟨rfl,rfl,rfl⟩,λb q=>q.elim,h⟩
def Br.a{w0 w v l}(h:Br w0 w v l):∃a c,v=Sl a l.length c:=by
 obtain⟨P,h,_⟩:=h;exact uj h
def uqR{w0 w1 v l}z ty(h:Br w0 w1 v l)(t:l.length<=4096) :
  ∃j w',(Builtin.append_ #[25,25] ty #[v,Sl (Sm w1.heap.size 0) 1 1]).run prog (w1.alloc (Oc #[Iv z] 3))=.ok j w'/\Br w0 w' j (l++[z]):=by
 obtain⟨P,o,k,c⟩:=h;have b1:=uk w1 (Oc #[Iv z] 3);have r:Src prog 1 25 (Sl (Sm w1.heap.size 0) 1 1) 1 [Iv z] (w1.alloc (Oc #[Iv z] 3)):=qg underlying25 rfl rfl rfl;let⟨j,w',p,s,i,x⟩:=kE ty jE (o.on (λb c=>b1.block b (k b c).2)) r oM (λ_=>Nat.one_pos);refine⟨j,w',p,λb=>(P b\/(w1.alloc (Oc #[Iv z] 3)).heap.size<=b)/\b<w'.heap.size,?_,?_,?_⟩
 .have e:vL (l++[z])=vL l++[Iv z]:=by simp[vL]
  rw[e,zJ,Dd];exact s.a oM (λb q c=>⟨q,c⟩)
 .rintro b ⟨q|q,m⟩
  .exact⟨(k b q).1,m⟩
  have:=c.size;have:=b1.size;exact⟨oM,m⟩
 have u:=c.size;have w:=b1.size;exact⟨i.os.trans (b1.os.trans c.os),i.g.trans (b1.tape.trans c.tape),i.f.trans (b1.output.trans c.output),by have:=i.l;omega,λb n=>(i.d b oM (λq=>oH ((k b q).1))).trans ((b1.block b oM).trans (c.block b n))⟩
def ZG{ops:Array Oper}{rest:List Oper}{o:Oper}{a:Act}{d:Exit->Act->World->Prop}(g:o.guard=none)(s x:Operand)(j:o.op=.call { callee:=.builtin .append,args:=#[s,x],argTypes:=#[25,25] })
  {w0 w1:Wl} {v:Vl} {l:LI} {z:Int} (n:a.eval s=v) (p:a.eval x=Sl (Sm w1.heap.size 0) 1 1) (h:Br w0 w1 v l) (i:l.length<=4096)
  (k:∀w' l' c b c',Hid (l'=l++[z])->Hid (c=l'.length)->Hid (Br w0 w' (Sl b c c') l')->wpList prog ops d rest (a.put o.dst (Sl b c c')) w'):wpList prog ops d (o::rest) a (w1.alloc (Oc #[Iv z] 3)):=by
 refine wpList_plain g λK f=>?_;let⟨q,w',m,e⟩:=uqR z o.type h i;obtain⟨b,c',rfl⟩:=e.a;exact yO j n p m (f _ _ (k w' (l++[z]) _ b c' rfl rfl e))
def BP(w:Wl)(a:Oa)(M:Nat->Bool):Prop:=∃b,a=some (Ad b 0)/\∀i,i<256->w.cell? (Ad b i)=some (.bool (M i))
def Sp(l:LI)(w:Wl)(e:Ending)(w':Wl):Prop:=∃a c,e=Rt (Sl a l.length c)/\Br w w' (Sl a l.length c) l
def rgI(w:Wl)(M:Nat->Bool)(b a:Vl)(wr:Wl):Prop:=∃k:Nat,k<=256/\a=Iv (k:Int)/\Br w wr b (rg M k)
def qO a M w(J:BP w a M):Cs 182 #[Sl a 256 256] w (Sp (rg M 256) w):=by
 obtain⟨b,rfl,x⟩:=J;have E:=ua x;have lb:=ud (x 0 oM);clear x;go_enter func182,ntmps182;go_wp2;go_loopw [3,4] (λB z wr=>rgI w M B z wr) (λB z _=>256-(intOf z).toNat)
 .exact⟨0,oM,rfl,Br.nil (zH _)⟩
 obtain⟨k,hk,rfl,r⟩:=hrel;obtain⟨R,S,rfl⟩:=r.a;have P:=Uu M k;let⟨on,y⟩:=nm ((rg M k).length);rw[y]at r P ⊢;have d:=ua r;have p:=ua y;have e:Hid (∀W i,Bw w W->i<256->W.cell? (Ad b i)=some (.bool (M i))):=λW i N O=>ue (E.o i O) N;clear r y;by_cases A:k<256
 .have hlt':(k:Int)<256:=oM;have ac:=Ba lb d.o.q.size;have t:=e.o wr k d.o.q A;have g:=ua λW h=>e.o W k h A;have c:=ZF M k;rcases(show k=0\/k=255\/k≠0/\k≠255 by omega) with rfl|rfl|⟨H,I⟩;have u:=e.o wr 1 d.o.q oM;have f:=ua λW h=>e.o W 1 h oM;simp at c;generalize M 0=l at t g c;generalize M 1=m at u f c;cases l<;>cases m
  rotate_left 4
  have v:=e.o wr 254 d.o.q oM;have f:=g;simp at c;generalize M 255=l at t g f c;generalize M 254=m at v c;cases l<;>cases m
  rotate_left 4
  obtain⟨j,rfl⟩:∃j,k=j+1:=⟨k-1,oM⟩;have e0:((j:Int)+1==0)=false:=sO;have e5:((j:Int)+1==255)=false:=sO;have aa:(j:Int)+1+1<256:=oM;have v:=e.o wr j d.o.q oM;have u:=e.o wr (j+1+1) d.o.q oM;have f:=ua λW h=>e.o W (j+1+1) h oM;simp[show j≠254 by omega]at c;clear H I;generalize M (j+1)=l at t g c;generalize M j=m at v c;generalize M (j+1+1)=Q at u f c;cases l<;>cases m<;>cases Q
  all_goals
   simp at c;have F:=ua c;clear c;go_wp2_with (first|(at_builtin;refine ZG rfl _ _ rfl rfl rfl d.o (by rw[p.o];omega) ?_;intro W L n V Y s T o;have G:=g.o W o.o.q;have dn:=f.o W o.o.q;have ab:=ud G)|(at_builtin;refine ZG rfl _ _ rfl rfl rfl o.o (by rw[s.o,zJ,p.o];simp;omega) ?_;intro W2 L2 n2 X Z C U D));go_roundw
   .first|refine⟨0+1,oM,by go_num,?_⟩|refine⟨255+1,oM,by go_num,?_⟩|refine⟨j+1+1,oM,by go_num,?_⟩
    rw[F.o];first|exact d.o|(have h:=o.o;rw[s.o]at h;simpa using h)|(have h:=D.o;rw[C.o,s.o]at h;simpa using h)
   first|(simp[intOf];done)|(simp[intOf];omega)
 obtain rfl:k=256:=oM;go_wp2;go_ret;exact⟨R,S,by rw[p.o];rfl,by rw[p.o];exact d.o⟩
def Ql(M:Nat->Bool)(m:Nat)(j:Nat):Vl:=if j<m then .bool (M j) else Bf
def ZH{t:TypeId}{w:Wl}{b n m:Nat}{M:Nat->Bool}(h:w.rowIs b t n (Ql M m)):(w.setCell (Ad b m) (.bool (M m))).rowIs b t n (Ql M (m+1)):=by
 refine(h.set m (.bool (M m))).congr λi _=>?_;unfold Ql;by_cases e:i=m
 .subst e;simp
 rw[Zn e];by_cases a:i<m
 .rw[Zp a,Zp oM]
 rw[Zn a,Zn oM]
def Xr:(prog.info? 4).map (λi=>(i.zero,i.size,i.bytes))=some (some Bf,1,1):=rR
def ZI(w:Wl)(M:Nat->Bool)(a:Vl)(wr:Wl):Prop :=
 ∃m:Nat,m<=256/\a=Iv (m:Int)/\wr.rowIs w.heap.size 4 256 (Ql M m)/\Bw w wr/\wr.heap.size=w.heap.size+1
def jB Q Q' a o n f c c' S j{w}(x:Ints Q .i64 w a n S)(y:Ints Q' .i64 w o f j)(R:n<=1048576)(T:f<=1048576) :
  Cs 186 #[Sl a n c,Sl o f c'] w (Sp (rg (λb=>vq n S b||vq f j b) 256) w):=by
 have C:=run_make_row' (P:=prog) 147 4 Bf 1 underlying147 Xr rfl .i64 .i64 256 oM oM;simp only[show((256:Nat):Int)=256 from rfl]at C;have F:=ua x;have G:=ua y;obtain⟨M,p⟩:∃M:Nat->Bool,M=λb:Nat=>vq n S b||vq f j b:=⟨_,rfl⟩;have t:=ua p;rw[<-p];clear x y p;go_enter func186,ntmps186;go_wp2;go_loopw [6] (λs wr=>ZI w M s wr) (λs _=>256-(intOf s).toNat)
 .exact⟨0,oM,rfl,(Kh w _ 256 4).congr λi _=>by simp[Ql],(zH w).alloc zD _,sM⟩
 obtain⟨m,Z,rfl,g,k,r⟩:=hrel;clear C;by_cases O:m<256
 .have hlt':(m:Int)<256:=oM;have X:=g.cell O;have Y:=g.frozen m;have D:=ZH g;have u:=ua D;have d:=ua k;have v:=ua r;clear g D k r;go_wp2_with fail;refine(qj Q a n c S m (F.h d) R).mono ?_;rintro e W ⟨rfl,N⟩;subst W;cases l:vq n S m with
  |true =>
   have q:Hid (M m=true):=(by show M m=true;rw[t.o];simp[l]);clear l;go_wp2;go_roundw
   .exact⟨m+1,oM,by go_num,q.o▸u.o,uD d zD,by rw[uh];exact v⟩
   simp[intOf];omega
  |false =>
   have q:Hid (M m=vq f j m):=(by show M m=_;rw[t.o];simp[l]);clear l;go_wp2_with fail;refine(qj Q' o f c' j m (G.h d) T).mono ?_;rintro e W ⟨rfl,N⟩;subst W;rw[<-q.o];go_wp2;go_roundw
   .exact⟨m+1,oM,by go_num,u,uD d zD,by rw[uh];exact v⟩
   simp[intOf];omega
 obtain rfl:m=256:=oM;have d:=ua k;have H:Hid (BP wr (Sm w.heap.size 0) M):=⟨w.heap.size,rfl,λi B=>by rw[g.cell B];simp[Ql,B]⟩;clear g k r;go_wp2_with fail;refine(qO _ M _ H).mono ?_;rintro e W ⟨J,L,rfl,z⟩;have I:=ua z;clear z;go_wp2;go_ret;obtain⟨P,U,E,V⟩:=I;have:=d.size;exact⟨J,L,rfl,P,U,λb A=>⟨by have:=E b A;omega,(E b A).2⟩,uf d V⟩
section
open M (OpD ug Gr)
structure Du(Q:Np)(w:Wl)(b o:Nat)(d:ug):Prop where
 c:Dw Q w b o d
 r:∃a c,w.cell? (Ad b (o+1))=some (Sl a d.bl c)/\d.bl<=c
structure Fo(Q:Np)(w:Wl)(b o:Nat)(d:ug):Prop where
 c:Fh Q w b o d
 r:∃a c,w.cell? (Ad b (o+2))=some (Sl a d.bl c)/\d.bl<=c
def Co(Q:Np)(w:Wl)(a:Oa)(n:Nat)(R:Nat->ug):Prop :=
 n=0\/∃b off,a=some (Ad b off)/\Q b/\∀i,i<n->Du Q w b (off+i*2) (R i)
def Dj(Q:Np)(w:Wl)(a:Oa)(n:Nat)(R:Nat->ug):Prop :=
 n=0\/∃b off,a=some (Ad b off)/\Q b/\∀i,i<n->Fo Q w b (off+i*3) (R i)
section
variable {Q Q':Np} {w w':Wl}
def Du.on{b o:Nat}{d:ug}(h:Du Q w b o d)(e:Q b)(t:zS Q w w'):Du Q w' b o d :=
 ⟨h.c.on e t,let⟨a,c,h1,h2⟩:=h.r;⟨a,c,(t.p e).trans h1,h2⟩⟩
def Du.g{b o:Nat}{d:ug}(h:Du Q w b o d)(t:∀b,Q b->Q' b):Du Q' w b o d:=⟨h.c.g t,h.r⟩
def Du.h{b o:Nat}{d:ug}(h:Du Q w b o d)(t:Bw w w'):Du Q w' b o d :=
 ⟨h.c.h t,let⟨a,c,h1,h2⟩:=h.r;⟨a,c,ue h1 t,h2⟩⟩
def Fo.on{b o:Nat}{d:ug}(h:Fo Q w b o d)(e:Q b)(t:zS Q w w'):Fo Q w' b o d :=
 ⟨h.c.on e t,let⟨a,c,h1,h2⟩:=h.r;⟨a,c,(t.p e).trans h1,h2⟩⟩
def Fo.g{b o:Nat}{d:ug}(h:Fo Q w b o d)(t:∀b,Q b->Q' b):Fo Q' w b o d:=⟨h.c.g t,h.r⟩
def Fo.h{b o:Nat}{d:ug}(h:Fo Q w b o d)(t:Bw w w'):Fo Q w' b o d :=
 ⟨h.c.h t,let⟨a,c,h1,h2⟩:=h.r;⟨a,c,ue h1 t,h2⟩⟩
def Co.on{a:Oa}{n:Nat}{R:Nat->ug}(h:Co Q w a n R)(t:zS Q w w'):Co Q w' a n R:=by
 rcases h with h|⟨b,off,e,c,h⟩
 .exact .inl h
 exact .inr ⟨b,off,e,c,λi d=>(h i d).on c t⟩
def Co.g{a:Oa}{n:Nat}{R:Nat->ug}(h:Co Q w a n R)(t:∀b,Q b->Q' b):Co Q' w a n R:=by
 rcases h with h|⟨b,off,e,d,h⟩
 .exact .inl h
 exact .inr ⟨b,off,e,t b d,λi c=>(h i c).g t⟩
def Co.h{a:Oa}{n:Nat}{R:Nat->ug}(h:Co Q w a n R)(t:Bw w w'):Co Q w' a n R:=by
 rcases h with h|⟨b,off,e,d,h⟩
 .exact .inl h
 exact .inr ⟨b,off,e,d,λi c=>(h i c).h t⟩
def Dj.on{a:Oa}{n:Nat}{R:Nat->ug}(h:Dj Q w a n R)(t:zS Q w w'):Dj Q w' a n R:=by
 rcases h with h|⟨b,off,e,c,h⟩
 .exact .inl h
 exact .inr ⟨b,off,e,c,λi d=>(h i d).on c t⟩
def Dj.g{a:Oa}{n:Nat}{R:Nat->ug}(h:Dj Q w a n R)(t:∀b,Q b->Q' b):Dj Q' w a n R:=by
 rcases h with h|⟨b,off,e,d,h⟩
 .exact .inl h
 exact .inr ⟨b,off,e,t b d,λi c=>(h i c).g t⟩
def Dj.h{a:Oa}{n:Nat}{R:Nat->ug}(h:Dj Q w a n R)(t:Bw w w'):Dj Q w' a n R:=by
 rcases h with h|⟨b,off,e,d,h⟩
 .exact .inl h
 exact .inr ⟨b,off,e,d,λi c=>(h i c).h t⟩
def Co.a{a:Oa}{n:Nat}{R:Nat->ug}(h:Co Q w a n R):Ci Q w a n R:=by
 rcases h with h|⟨b,off,e,f,h⟩
 .exact .inl h
 exact .inr ⟨b,off,e,f,λi d=>(h i d).c⟩
def Dj.a{a:Oa}{n:Nat}{R:Nat->ug}(h:Dj Q w a n R):Dk Q w a n R:=by
 rcases h with h|⟨b,off,e,f,h⟩
 .exact .inl h
 exact .inr ⟨b,off,e,f,λi d=>(h i d).c⟩
end
structure zV(Q:Np)(w:Wl)(ra la:Oa)(g:Gr):Prop where
 c:Co Q w ra g.nr g.a
 e:Dj Q w la g.nb g.d
def zV.a{Q w ra la g}(h:zV Q w ra la g):Ca Q w ra la g:=⟨h.c.a,h.e.a⟩
def zV.h{Q w w' ra la g}(h:zV Q w ra la g)(t:Bw w w'):zV Q w' ra la g:=⟨h.c.h t,h.e.h t⟩
end
def KJ{nr b o}(h:M.bB nr b o)(c:M.bE o):M.tg nr o<nr+b:=by
 obtain⟨_,_,_,_,d,a⟩:=h;unfold M.tg;unfold M.bF at a;rcases c with e|e
 .rw[Zn oM];rw[Zn oM,Zp e]at a;omega
 rw[Zp e];rw[Zp e]at a;omega
def kD ra la sa nr rc g lc sc o w(d:M.bE o)(h:0<=o.f)(i:o.f<=1048576)(j:nr<=1048576) :
  Cs 127 #[.agg #[Sl ra nr rc,Sl la g lc],.agg #[Iv o.e,Sl sa o.sl sc,Iv o.f]] w λe w'=>e=Rt (Iv (M.tg nr o:Nat))/\Bw w w':=by
 by_cases b:o.e=2
 .have c:(o.e==2)=true:=by simp[b]
  have a:Hid (¬o.e=3):=by show ¬_;omega
  go_enter func127,ntmps127;go_wp2;go_ret;exact⟨vk (by unfold M.tg;rw[Zn a.o];omega),Bm w⟩
 have c:(o.e==2)=false:=by simp[b]
 have a:Hid (o.e=3):=by rcases d with q|q;exact aB q b;exact q
 go_enter func127,ntmps127;go_wp2;go_ret;exact⟨vk (by unfold M.tg;rw[Zp a.o];omega),Bm w⟩
def ZY T i j(h:i<=j):M.dep T i<=M.dep T j+(j-i:Nat):=by
 induction j with
 |zero =>
   have:i=0:=oM;subst this;simp
 |succ j a =>
  by_cases e:i=j+1
  .subst e;simp
  have:=a oM;have b:=M.cB (T j).e;rw[M.dep];omega
def ZZ(w:Wl)(T:Nat->OpD)(s e:Nat)(d i:Vl)(wr:Wl):Prop :=
 ∃k:Nat,s<=k/\k<=e/\d=Iv (1-M.dep T e+M.dep T k)/\i=Iv (k:Int)/\wr=w
def KK b o n c T w Q(u:∀i,i<n->Em Q w b (o+i*3) (T i))(F:n<=1048576)e s(D:e<=n)(G:s<e)(r:M.dep T s+1=M.dep T e)(t:∀j,s<j->j<=e->M.dep T e<=M.dep T j) :
  Cs 118 #[Sl (Sm b o) n c,Iv (e:Int)] w λp w'=>p=Rt (Iv (s:Int))/\w=w':=by
 have l:=ua u;have g:=ua r;have h:=ua t;go_enter func118,ntmps118;go_wp2;go_loopw [5,6] (λd i wr=>ZZ w T s e d i wr) (λd i _=>(intOf i).toNat)
 .exact⟨e,oM,zD,xm oM,rfl,rfl⟩
 obtain⟨k,E,a,rfl,rfl,rfl⟩:=hrel;by_cases v:s<k
 .have B:=h k v a;have C:=ZY T k e a;obtain⟨q,rfl⟩:∃q,k=q+1:=⟨k-1,oM⟩;let⟨x,⟨sa,sc,y,H⟩,z⟩:=l q oM;have A:=M.cB (T q).e;have m:Hid (M.dep T (q+1)=M.dep T q+(1-M.ar (T q).e)):=rfl;have J:(0:Int)<((q+1:Nat):Int):=oM;have f:(0:Int)<1-M.dep T e+M.dep T (q+1):=oM;have L:((q+1:Nat):Int)-1=(q:Int):=oM;have N:(q:Int)<n:=oM;go_wp2_with (go_at_call 174;refine(B8).mono ?_;rintro e W ⟨rfl,I⟩;subst W);go_roundw
  .exact⟨q,oM,oM,xm (oH m.o),by first|rfl|go_num,by trivial⟩
  simp[intOf]<;>omega
 obtain rfl:k=s:=oM;have f:1-M.dep T e+M.dep T k=0:=oH g;rw[f];go_wp2;all_goals go_ret
 all_goals exact⟨rfl,rfl⟩
def Cd(w:Wl)(b o n:Nat)(mk:Nat->Bool):Prop:=∀i,i<n->w.cell? (Ad b (o+i))=some (.bool (mk i))
def Cd.h{w w' b o n mk}(h:Cd w b o n mk)(k:Bw w w'):Cd w' b o n mk:=λi a=>ue (h i a) k
def BX B lo j:M.dep (λi=>B (lo+i)) j=M.dep B (lo+j)-M.dep B lo:=by
 induction j with
 |zero=>simp[M.dep]
 |succ j a=>rw[M.dep,a,show lo+(j+1)=lo+j+1 by omega,M.dep];omega
def uB(m:Nat)(h:m<=1048576):IntKind.i64.wrap (m:Int)=(m:Int):=by
 simp[IntKind.wrap,IntKind.bits,IntKind.signed];omega
def BY(x:Bool)(w:Wl)(e:Ending)(w':Wl):Prop:=e=Rt (.bool x)/\Bw w w'
open M (EX ins)
structure IC where
 d:uw
 a:Option Addr
 c:Nat
def Iz(x:IC):List Value:=[Iv x.d.e,Iv x.d.f,Iv x.d.to,Sl x.a x.d.sl x.c]
def ic(k a t:Int):IC:=⟨ins k a t,none,0⟩
def uQ:List IC->List Value
 |[]=>[]
 |x::l=>Iz x++uQ l
def Vw x:(Iz x).length=4:=rfl
def DG l:(uQ l).length=l.length*4:=by
 induction l with
 |nil=>rfl
 |cons x l a=>rw[uQ,zJ,a,Vw];simp only[Db];omega
def MC l m:uQ (l++m)=uQ l++uQ m:=by
 induction l with
 |nil=>rfl
 |cons x l a=>rw[Fc,uQ,uQ,a,Ce]
def qv:∀(l:List IC) (i j:Nat) (x:IC),l[i]?=some x->j<4->(uQ l)[i*4+j]?=(Iz x)[j]?
 |[],i,j,x,h,_=>by simp at h
 |y::l,0,j,x,h,hj=>by
  simp at h;subst h;rw[uQ,Es (by rw[Vw];omega)];simp
 |y::l,i+1,j,x,h,hj=>by
  simp at h;rw[uQ,Fb (by rw[Vw];omega),Vw,show(i+1)*4+j-4=i*4+j by omega];exact qv l i j x h hj
def J5 l:∀u,u∈uQ l->u.oneCell'=true:=by
 induction l with
 |nil=>intro u a;cases a
 |cons x l b =>
  intro u a;rw[uQ]at a;rcases By.1 a with h|h
  .simp[Iz]at h;rcases h with rfl|rfl|rfl|rfl<;>rfl
  exact b u h
def Cb(S:Np)(w:Wl)(l:List IC):Prop:=∀x,x∈l->Ints S .i64 w x.a x.d.sl x.d.set
def Cb.on{S w w' l}(h:Cb S w l)(k:zS S w w'):Cb S w' l:=λx a=>(h x a).on k
def Cb.h{S w w' l}(h:Cb S w l)(k:Bw w w'):Cb S w' l:=λx a=>(h x a).h k
def Cb.g{S a w l}(h:Cb S w l)(k:∀b,S b->a b):Cb a w l:=λx c=>(h x c).g k
def Cb.app{S w l m}(h:Cb S w l)(k:Cb S w m):Cb S w (l++m):=λx a=>(By.1 a).elim (h x) (k x)
def DH:vJ 39 102 4 48:=⟨underlying39,⟨_,uth,rfl⟩,oM⟩
structure Fx(w0 w:Wl)(v:Vl)(l:List IC)(P S:Np):Prop where
 k:zB P w v 4 l.length (uQ l)
 m:Cb S w l
 p:∀b,P b->w0.heap.size<=b/\b<w.heap.size/\¬S b
 s:∀b,S b->w0.heap.size<=b/\b<w.heap.size
 q:Bw w0 w
 ne:v=nS\/0<l.length
def De(w0 w:Wl)(v:Vl)(l:List IC):Prop:=∃P S,Fx w0 w v l P S
def Yh{Q w w' v a n cs}(h:zB Q w v a n cs)(d:∀b,Q b->b<w.heap.size)(k:Bw w w'):zB Q w' v a n cs :=
 h.on (λb c=>k.block b (d b c))
def Fx.h{w0 w w' v l P S}(h:Fx w0 w v l P S)(k:Bw w w'):Fx w0 w' v l P S :=
 ⟨Yh h.k (λb a=>(h.p b a).2.1) k,h.m.h k,λb a=>⟨(h.p b a).1,Ba (h.p b a).2.1 k.size,(h.p b a).2.2⟩,λb a=>⟨(h.s b a).1,Ba (h.s b a).2 k.size⟩,h.q.trans (k.mono h.q.size),h.ne⟩
def De.h{w0 w w' v l}(h:De w0 w v l)(k:Bw w w'):De w0 w' v l:=let⟨P,S,h⟩:=h;⟨P,S,h.h k⟩
def De.q{w0 w v l}(h:De w0 w v l):Bw w0 w:=let⟨_,_,h⟩:=h;h.q
def De.a{w0 w v l}(h:De w0 w v l):∃a c,v=Sl a l.length c:=by
 obtain⟨P,S,h⟩:=h;rcases h.k with⟨rfl,e,_⟩|⟨g,cap,rfl,_⟩
 .exact⟨none,0,by rw[e]⟩
 exact⟨_,_,rfl⟩
def De.nil{w0 w}(h:Bw w0 w):De w0 w nS [] :=
 ⟨λ_=>False,λ_=>False,.inl ⟨rfl,rfl,rfl⟩,λx a=>aB a (Nk),λb q=>q.elim,λb q=>q.elim,h,.inl rfl⟩
def De.b{w0 w1 w v l}(h:De w1 w v l)(k:Bw w0 w1):De w0 w v l:=by
 obtain⟨P,S,h⟩:=h;have:=k.size;exact⟨P,S,h.k,h.m,λb a=>⟨by have:=(h.p b a).1;omega,(h.p b a).2⟩,λb a=>⟨by have:=(h.s b a).1;omega,(h.s b a).2⟩,uf k h.q,h.ne⟩
def MD{w0 w v l P S}(h:Fx w0 w v l P S):Src prog 4 39 v l.length (uQ l) w:=by
 rcases h.k with⟨rfl,e,f⟩|⟨g,cap,rfl,n,m,i,c,o⟩
 .have:l = []:=Ic e;subst this;exact Src.ofNil w underlying39 0
 refine Src.ofSlice (P:=prog) w underlying39 (Ad g 0) l.length cap _ (by rw[DG]) (λj u b=>?_) (J5 l);have d:=(Bz.1 b).1;have e':((Ad g 0):Addr).add j=(Ad g j):=by
  by_cases a:j=0
  .subst a;simp[Addr.add]
  simp[Addr.add,a]
 rw[e',c j d];exact b
def J6{w0 w1 w w' v y n L L2 P S o j}(h:Fx w0 w1 v L P S)(e:Fx w1 w y L2 o j)(x:zB (λb=>P b\/w.heap.size<=b) w' n 4 (L.length+L2.length) (uQ L++uQ L2))(i:zT (λb=>P b) w w')(z:0<L.length+L2.length):De w0 w' n (L++L2):=by
 have D:=h.q.size;have E:=e.q.size;have F:=i.l;have t:zS (λb=>S b\/j b) w w':=λb c=>i.d b (by
  rcases c with q|q
  .have:=(h.s b q).2;omega
  .exact(e.s b q).2) (λq=>by
  rcases c with r|r
  .exact(h.p b q).2.2 r
  have k:=(h.p b q).2.1;have B:=(e.s b r).1;omega)
 refine⟨λb=>P b\/(w.heap.size<=b/\b<w'.heap.size),λb=>S b\/j b,?_,?_,?_,?_,?_,.inr (by rw[zJ];exact z)⟩
 .rw[zJ,MC];exact x.a oM (λb q c=>q.imp id (λq=>⟨q,c⟩))
 .exact((((h.m.g (λb q=>Or.inl q)).h e.q).app (e.m.g (λb q=>Or.inr q)))).on t
 .rintro b (q|⟨C,A⟩)
  .have k:=h.p b q;refine⟨k.1,oM,λr=>?_⟩;rcases r with r|r
   .exact k.2.2 r
   have:=(e.s b r).1;omega
  refine⟨oM,A,λr=>?_⟩;rcases r with r|r
  .have:=(h.s b r).2;omega
  have:=(e.s b r).2;omega
 .rintro b (q|q)
  .have:=h.s b q;exact⟨this.1,oM⟩
  have:=e.s b q;exact⟨oM,oM⟩
 have c:=uf h.q e.q;exact⟨i.os.trans c.os,i.g.trans c.tape,i.f.trans c.output,zP c.size i.l,λb u=>(i.d b oM (λq=>oH ((h.p b q).1))).trans (c.block b u)⟩
def J7{w0 w1 w v y L L2}ty(h:De w0 w1 v L)(a:De w1 w y L2)(m:L.length+L2.length<=16777216) :
  ∃c w',(Builtin.append_ #[39,39] ty #[v,y]).run prog w=.ok c w'/\De w0 w' c (L++L2):=by
 obtain⟨P,S,h⟩:=h;obtain⟨s,t,a⟩:=a;by_cases x:L.length+L2.length=0
 .have d:L = []:=Ic oM;have f:L2 = []:=Ic oM;subst d f;have j:=h.ne.elim id (λq=>aB q sM);subst j;exact⟨_,_,Yd ty DH (MD a),De.nil (uf h.q a.q)⟩
 let⟨c,w',n,o,r,z⟩:=kE ty DH (Yh h.k (λb l=>(h.p b l).2.1) a.q) (MD a) m (λe=>by
  by_cases q:0<L2.length
  .exact q
  rcases h.k with⟨_,u,_⟩|⟨g,cap,i,_⟩
  .omega
  rw[i]at e;cases e)
 exact⟨c,w',n,J6 h a o r oM⟩
def ME{w0 w x S}(l:Bw w0 w)(p:Ints S .i64 w x.a x.d.sl x.d.set)(k:∀b,S b->w0.heap.size<=b/\b<w.heap.size) :
  De w0 (w.alloc (Oc #[Iv x.d.e,Iv x.d.f,Iv x.d.to,Sl x.a x.d.sl x.c] 102)) (Sl (Sm w.heap.size 0) 1 1) [x]:=by
 have i:(w.alloc (Oc #[Iv x.d.e,Iv x.d.f,Iv x.d.to,Sl x.a x.d.sl x.c] 102)).heap.size=w.heap.size+1:=sM;have hb':=l.size;have m:∀j,j<4->(w.alloc (Oc #[Iv x.d.e,Iv x.d.f,Iv x.d.to,Sl x.a x.d.sl x.c] 102)).cell? (Ad w.heap.size j)=(Iz x)[j]?:=λj g=>by
  match j,g with
  |0,_=>exact cN w.heap.size rfl rfl
  |1,_=>exact cN w.heap.size rfl rfl
  |2,_=>exact cN w.heap.size rfl rfl
  |3,_=>exact cN w.heap.size rfl rfl
  |j+4,g=>omega
 refine⟨λb=>b=w.heap.size,S,?_,?_,?_,?_,?_,.inr sM⟩
 .refine .inr ⟨w.heap.size,1,rfl,rfl,rfl,zD,λj g=>?_,λj g=>⟨?_,?_⟩⟩
  .have hj':j<4:=(by simpa[uQ,Iz] using g);rw[m j hj',uQ,uQ,Dl]
  .rw[m j oM];match j,g with
   |0,_=>rfl
   |1,_=>rfl
   |2,_=>rfl
   |3,_=>rfl
   |j+4,g=>omega
  exact qU w 102 w.heap.size j zD (by rw[i];omega)
 .intro y n;simp at n;subst n;exact p.h (zO w)
 .rintro b rfl;exact⟨hb',by rw[i];omega,λq=>by have:=(k _ q).2;omega⟩
 .intro b o;have:=k b o;exact⟨this.1,by rw[i];omega⟩
 exact uf l (zO w)
def J8{w0 w}k a t(c:Bw w0 w):De w0 (w.alloc (Oc #[Iv k,Iv a,Iv t,nS] 102)) (Sl (Sm w.heap.size 0) 1 1) [ic k a t] :=
 ME (x:=ic k a t) (S:=λ_=>False) c (.inl rfl) (λb q=>q.elim)
def uO(k:IntKind)(S:Nat->Int)(n:Nat):List Value:=(List.range n).map λi=>.int k (S i)
def yH k S n:(uO k S n).length=n:=by simp[uO]
def LU{k S n i}(h:i<n):(uO k S n)[i]?=some (.int k (S i)):=by simp[uO,h]
def G5 k S n:∀u∈uO k S n,u.oneCell'=true:=by
 intro u a;obtain⟨i,_,rfl⟩:=Gj.1 a;rfl
def Ints.e{Q k w x n c S g e}(i:prog.underlying g=some (.slice e))(h:Ints Q k w (some x) n S):Src prog 1 g (Sl (some x) n c) n (uO k S n) w:=by
 refine Src.ofSlice (P:=prog) w i x n c (uO k S n) (by rw[yH,Pb]) (λj u d=>?_) (G5 k S n);have f:j<n:=by have:=(Bz.1 d).1;rwa [yH]at this
 rw[LU f]at d;cases d;rcases h with a|⟨b,off,e,_,h⟩
 .omega
 cases e;have e':((Ad b off):Addr).add j=(Ad b (off+j)):=by
  by_cases a:j=0
  .subst a;simp[Addr.add]
  simp[Addr.add,a]
 rw[e'];exact h j f
def zB.c{Q k w v n S}(h:zB Q w v 1 n (uO k S n)):∃a c,v=Sl a n c/\Ints Q k w a n S:=by
 rcases h with⟨rfl,rfl,_⟩|⟨g,cap,rfl,e,f,_,d,_⟩
 .exact⟨none,0,rfl,.inl rfl⟩
 refine⟨_,_,rfl,.inr ⟨g,0,rfl,e,λi b=>?_⟩⟩;rw[Bp,d i (by rw[yH];exact b),LU b]
def zT.below{Q w0 w w'}(h:zT Q w w')(a:Bw w0 w)(e:∀b,b<w0.heap.size->¬Q b):Bw w0 w' :=
 ⟨h.os.trans a.os,h.g.trans a.tape,h.f.trans a.output,zP a.size h.l,λb c=>(h.d b (Ba c a.size) (e b c)).trans (a.block b c)⟩
def G6 w g c:zB (λb=>b=g) w (Sl (Sm g 0) 0 0) c 0 [] :=
 .inr ⟨g,0,rfl,rfl,sM,zD,λj a=>aB a (Ge _),λj a=>by simp at a⟩
def G7{k t w W j n S}(h:zB (λb=>b=w.heap.size\/(w.alloc (Oc #[] t)).heap.size<=b) W j 1 (0+n) ([]++uO k S n))(f:zT (λb=>b=w.heap.size) (w.alloc (Oc #[] t)) W)(p:W.heap.size<=(w.alloc (Oc #[] t)).heap.size+1) :
  MR (λw' a=>Ints (zF w w') k w' a n S) n w (Rt j) W:=by
 rw[Bp,Hm]at h;have i:=f.below (zO w) (λb i e=>oM);simp only[Ck]at h p;have q:=f.l;simp only[Ck]at q;refine⟨?_,i,(qU w t).a f⟩;let⟨a,c,e,d⟩:=h.c;by_cases g:n=0
 .exact⟨a,c,by rw[e],.inl g⟩
 rcases d with o|⟨b,off,m,r,d⟩
 .exact aB o g
 exact⟨a,c,by rw[e],.inr ⟨b,off,m,⟨oM,ud (d 0 oM)⟩,d⟩⟩
def G8 Q a n c S w(d:Ints Q .i64 w a n S)(p:n<=1048576) :
  Cs 156 #[Sl a n c] w (MR (λw' a=>Ints (zF w w') .i64 w' a n S) n w):=by
 have q:∀(w:Wl) (a:Oa) (n c b c':Nat),(binOp .eql 25 (Sl a n c) (Sl none b c')).run prog w=.ok (.bool a.isNone) w:=λw a n c b c'=>Lib.run_eql_slice_nil w _ _ a n c b c' underlying25;cases a with
 |none =>
  have o:n=0:=by
   rcases d with h|⟨_,_,e,_⟩
   .exact h
   cases e
  subst o;go_enter func156,ntmps156;go_wp2;go_ret;exact⟨⟨none,0,rfl,.inl rfl⟩,zH _,Dc.e _⟩
 |some x =>
  have l:=ua d;go_enter func156,ntmps156;go_wp2_with (at_builtin;refine jM rfl _ _ 25 25 rfl rfl rfl jE (G6 _ w.heap.size 1) (Ints.e underlying25 (l.h (zO w))) oM ?_;intro r W g f i;have k:Hid _:=g;have j:Hid _:=f;have m:Hid _:=i;clear g f i);go_ret;exact G7 k j m
def G9{ops:Array Oper}{rest:List Oper}{o:Oper}{a:Act}{i:Exit->Act->World->Prop}{w:Wl}(v:o.guard=none)(s x:Operand)(z:o.op=.call { callee:=.builtin .append,args:=#[s,x],argTypes:=#[25,25] })
  {Q:Np} {sa:Oa} {n c:Nat} {S:Nat->Int} (B:a.eval s=nS) (D:a.eval x=Sl sa n c) (j:Ints Q .i64 w sa n S) (H:n<=1048576)
  (k:∀w' d c',Hid (Ints (zF w w') .i64 w' d n S)->Hid (Bw w w')->wpList prog ops i rest (a.put o.dst (Sl d n c')) w'):wpList prog ops i (o::rest) a w:=by
 refine wpList_plain v λK u=>?_;have C:Src prog 1 25 (Sl sa n c) n (uO .i64 S n) w:=by
  cases sa with
  |some y=>exact j.e underlying25
  |none =>
   have f:n=0:=by
    rcases j with h|⟨_,_,e,_⟩
    .exact h
    cases e
   subst f;exact Src.ofNil w underlying25 c
 have F:∃d c' w',(Builtin.append_ #[25,25] o.type #[nS,Sl sa n c]).run prog w=.ok (Sl d n c') w'/\Ints (zF w w') .i64 w' d n S/\Bw w w':=by
  let⟨J,w',g,m,E,I⟩:=yN (Q:=λ_=>False) (cs:=[]) (n:=0) o.type jE (.inl ⟨rfl,rfl,rfl⟩) C oM;rw[Bp,Hm]at m;obtain⟨d,c',rfl,t⟩:=m.c;refine⟨d,c',w',g,?_,E.below (zH w) (λb G q=>q)⟩;rcases t with q|⟨b,off,e,A,l⟩
  .exact .inl q
  by_cases f:n=0
  .exact .inl f
  exact .inr ⟨b,off,e,⟨A.elim (λq=>q.elim) id,ud (l 0 oM)⟩,l⟩
 obtain⟨d,c',w',g,p,r⟩:=F;exact yO z B D g (u _ _ (k w' d c' p r))
def ZK{S T b m}(h:∀i,i<2*m->S i=T i):yj S b m=yj T b m:=by
 induction m with
 |zero=>rfl
 |succ m a=>rw[yj,yj,a (λi c=>h i oM),h (2*m) oM,h (2*m+1) oM]
def lf(l:LI)(i:Nat):Int:=l.getD i 0
def JY l r{i}(h:i<l.length):lf (l++r) i=lf l i:=by
 unfold lf;rw[El,El,Es h]
def uqT l r i:lf (l++r) (l.length+i)=lf r i:=by
 unfold lf;rw[El,El,Fb oM];congr 2;omega
structure RgI(M:Nat->Bool)(b:Nat)(l:LI):Prop where
 a:(b=0\/M (b-1)=false\/b=256\/M b=false)->l.length%2=0/\∀c:Nat,vq l.length (lf l) c=(decide (c<b)&&M c)
 d:¬(b=0\/M (b-1)=false\/b=256\/M b=false)->∃s:Nat,s<b/\l.length%2=1/\lf l (l.length-1)=(s:Int)/\(∀c,s<=c->c<=b->M c=true)/\∀c:Nat,vq l.length (lf l) c=(decide (c<s)&&M c)
def unZ{l r c}(a:(l++r).length / 2=l.length / 2):vq (l++r).length (lf (l++r)) c=vq l.length (lf l) c:=by
 unfold vq;rw[a];exact ZK (λi b=>JY l r oM)
def uqU{l r c s b}(h:(l++r).length / 2=l.length / 2+1)(d:lf (l++r) (2*(l.length / 2))=s)(a:lf (l++r) (2*(l.length / 2)+1)=b):vq (l++r).length (lf (l++r)) c=(vq l.length (lf l) c||(decide (s<=c)&&decide (c<=b))):=by
 unfold vq;rw[h,yj,ZK (T:=lf l) (λi e=>JY _ _ oM),d,a]
def uvX M b(y:b<=256):RgI M b (rg M b):=by
 induction b with
 |zero=>exact⟨λ_=>⟨rfl,λc=>by simp[rg,vq,yj]⟩,λh=>absurd (.inl rfl) h⟩
 |succ b v =>
  have k:=v oM;have n:rg M (b+1)=(rg M b++if M b&&(b==0||!M (b-1)) then [(b:Int)] else [])++if M b&&(b==255||!M (b+1)) then [(b:Int)] else []:=(Ce _ _ _).symm
  rw[n];clear n;generalize rg M b=l at *;cases g:M b with
  |false =>
   let⟨o,i⟩:=k.a (.inr (.inr (.inr g)));simp only[Bool.false_and,Nh,if_false,Dl];refine⟨λ_=>⟨o,λc=>?_⟩,λh=>aB (.inr (.inl g)) h⟩;rw[i c];by_cases q:c=b
   .subst q;simp[g]
   simp[show c<b↔c<b+1 by omega]
  |true =>
   have w:∃s L,(l++if true&&(b==0||!M (b-1)) then [(b:Int)] else [])=L/\s<=b/\L.length%2=1/\lf L (L.length-1)=(s:Int)/\(∀c,s<=c->c<=b->M c=true)/\∀c:Nat,vq L.length (lf L) c=(decide (c<s)&&M c):=by
    by_cases h:b=0\/M (b-1)=false
    .let⟨o,i⟩:=k.a (h.imp_right .inl);rw[Zp (by rcases h with rfl|q<;>simp[*])];exact⟨b,_,rfl,zD,sO,by simp[lf],λc m u=>by rw[show c=b by omega];exact g,λc=>(unZ sO).trans (i c)⟩
    simp only[not_or]at h;let⟨s,x,j⟩:=k.d (by simp[h.1,h.2,g];omega);rw[Zn (by simpa using h),Dl];exact⟨s,l,rfl,oM,j⟩
   obtain⟨s,L,e,x,j,p,r,t⟩:=w;rw[e];by_cases f:b+1=256\/M (b+1)=false
   .rw[Zp (by
     rcases f with q|q;· simp[show b=255 by omega]
     simp[q])]
    refine⟨λ_=>⟨sO,λc=>?_⟩,λh=>aB (.inr (.inr f)) h⟩;rw[uqU (s:=s) (b:=b) sO (by rw[JY _ _ oM,show 2*(L.length / 2)=L.length-1 by omega,p]) (by rw[show 2*(L.length / 2)+1=L.length+0 by omega,uqT];rfl),t c];by_cases q:M c=true
    .rw[Ni];simp[q];omega
    have:¬(s<=c/\c<=b):=λz=>q (r c z.1 z.2);simp[q];omega
   simp only[not_or]at f;rw[Zn (by simp;simpa[show b≠255 by omega] using f.2),Dl];refine⟨λh=>?_,λ_=>⟨s,oM,j,p,λc m u=>?_,t⟩⟩
   .simp[g,f.1,f.2]at h
   by_cases q:c=b+1
   .rw[q];simpa using f.2
   exact r c m oM
def uvY M{c:Nat}(b:c<256):vq (rg M 256).length (lf (rg M 256)) c=M c:=by
 let⟨_,h⟩:=(uvX M 256 zD).a (.inr (.inr (.inl rfl)));rw[h c];simp[b]
def uqV{M N b}(d:b<=256)(h:∀c,c<256->M c=N c):rg M b=rg N b:=by
 induction b with
 |zero=>rfl
 |succ b a =>
  rw[rg,rg,a oM,h b oM];rw[h (b-1) oM];by_cases q:b=255
  .subst q;simp
  rw[h (b+1) oM]
def zC.k(s:zC)(n:Nat)(S:Nat->Int):zC :=
 if s.i<s.c then { s with i:=s.c,t:=λb=>vq n S (b:Int) }
 else if s.c=s.i then { s with t:=λb=>vq n S (b:Int)||s.t b } else s
def zC.w(s:zC)(n:Nat)(S:Nat->Int)(il:Nat)(I:Nat->Int):zC :=
 if s.c<il/\vq n S (I s.c)=true then { s with c:=s.c+1,f:=s.f+1 }
 else (if s.j then s else s.k n S).h
def zC.u(s:zC):zC:={ s with st:=s.st.dropLast }
def zC.x(s:zC)(x:uw)(mO:Int):zC:=({ s with f:=x.to }).m ⟨2,s.f+1,0,0⟩ mO
def zC.n(s:zC)(k a:Int):zC:={ s with a:=s.a++[⟨k,a,s.c⟩],f:=s.f+1 }
def zC.y(s:zC)(k to mO:Int):zC:=({ s with f:=s.f+1 }).m ⟨k,to,s.c,s.a.length⟩ mO
def Lv(l:List Cf):Int:=match l.getLast? with|none=>0|some f=>f.to
def zC.q(s:zC)(x:uw)(il:Nat)(I:Nat->Int)(mO:Int):zC :=
 if x.e=0 then s.w x.sl x.set il I
 else if x.e=1 then s.y 0 x.to mO
 else if x.e=4 then s.y 1 x.to mO
 else if x.e=6 then s.x x mO
 else if x.e=8 then (if s.j then s.h else if x.to<0 then ({ s with d:=s.d+1,s:=x.f }).l 2 else ({ s with d:=s.d+1 }).x x mO)
 else if x.e=2/\s.v 0=true then { s.u with f:=x.to }
 else if x.e=3/\s.v 0=true then ({ s.u with f:=x.to }).m ⟨0,Lv s.st,s.c,s.a.length⟩ mO
 else if x.e=5/\s.v 1=true then s.u.h
 else if x.e=7/\s.v 2=true then { s.u with f:=Lv s.st }
 else if x.e=9 then s.n 0 x.f
 else if x.e=10 then s.n 1 x.f
 else if x.e=11 then s.n 2 x.f
 else if x.e=12/\s.st.length=0 then s.l 0
 else s.l 4
def zC.p(s:zC)(n:Nat)(R:Nat->uw)(il:Nat)(I:Nat->Int)(fU mO:Int):zC :=
 if s.f<0\/(n:Int)<=s.f then s.l 4
 else if (s.b:Int)=fU then s.l 3
 else ({ s with b:=s.b+1 }).q (R s.f.toNat) il I mO
inductive Ends(n:Nat)(R:Nat->uw)(il:Nat)(I:Nat->Int)(fU mO:Int):zC->zC->Prop
 |over {s:zC}:s.e=true->Ends n R il I fU mO s s
 |go {s t:zC}:s.e=false->Ends n R il I fU mO (s.p n R il I fU mO) t->Ends n R il I fU mO s t
structure Good(mO:Int)(s:zC):Prop where
 c:(s.st.length:Int)<=mO
 e:s.a.length<=s.b
 b:∀f,f∈s.st->f.e≠2->f.a<=s.a.length
 r:s.st.Pairwise (λf g=>f.e≠2->g.e≠2->f.a<=g.a)
 a:∀f,f∈s.st->f.e=0\/f.e=1\/f.e=2
def Good.l{mO s}(h:Good mO s)c:Good mO (s.l c):=⟨h.c,h.e,h.b,h.r,h.a⟩
def ujp{l r f}(h:vr l=some (f,r)):f.e≠2/\∃p,l=p++f::r:=by
 induction l with
 |nil=>simp[vr]at h
 |cons x l b =>
  rw[vr]at h;by_cases e:x.e=2
  .rw[Zp e]at h;obtain⟨a,p,rfl⟩:=b h;exact⟨a,x::p,rfl⟩
  rw[Zn e]at h;cases h;exact⟨e,[],rfl⟩
def Good.h{mO s}(h:Good mO s):Good mO s.h:=by
 unfold zC.h;cases v:vr s.st.reverse with
 |none=>exact h.l 1
 |some p =>
  obtain⟨f,r⟩:=p;let⟨k,p,u⟩:=ujp v;have d:s.st=r.reverse++(f::p.reverse):=by
   have:=Bj List.reverse u;simpa using this
  have o:f∈s.st:=by rw[d];simp
  have t:=h.b f o k;have j:=h.r;rw[d,Tc]at j;obtain⟨m,w,n⟩:=j;refine⟨?_,?_,?_,m,λg i=>h.a g (by rw[d];exact List.mem_append_left _ i)⟩
  .have:=h.c;rw[d,zJ]at this;show((r.reverse.length:Nat):Int)<=mO;omega
  .show(s.a.take f.a).length<=s.b;have:=h.e;rw[Fw];omega
  intro g i q;show g.a<=(s.a.take f.a).length;rw[Fw,Nat.min_eq_left t];exact n g i f (Qy) q k
def Good.m{mO s}(h:Good mO s)f(d:f.e≠2->f.a=s.a.length)(o:f.e=0\/f.e=1\/f.e=2):Good mO (s.m f mO):=by
 unfold zC.m;split
 .exact h.l 3
 rename_i t;refine⟨?_,h.e,λg c i=>?_,?_,λg c=>?_⟩
 .show(((s.st++[f]).length:Nat):Int)<=mO;rw[zJ,Dd];omega
 .rcases By.1 c with q|q
  .exact h.b g q i
  simp at q;subst q;show g.a<=s.a.length;rw[d i];exact zD
 .show(s.st++[f]).Pairwise _;rw[Tc];refine⟨h.r,sM,λx p y j k n=>?_⟩;simp at j;subst j;rw[d n];exact h.b x p k
 rcases By.1 c with q|q
 .exact h.a g q
 simp at q;subst q;exact o
def Good.u{mO s}(h:Good mO s):Good mO s.u:=by
 refine⟨?_,h.e,λg d=>h.b g (List.dropLast_subset _ d),h.r.sublist (List.dropLast_sublist _),λg d=>h.a g (List.dropLast_subset _ d)⟩;have:=h.c;show((s.st.dropLast.length:Nat):Int)<=mO;rw[Vn];omega
def Good.at{mO s}(h:Good mO s)z:Good mO { s with f:=z }:=⟨h.c,h.e,h.b,h.r,h.a⟩
def Good.k{mO s}(h:Good mO s)n S:Good mO (s.k n S):=by
 unfold zC.k;split
 .exact⟨h.c,h.e,h.b,h.r,h.a⟩
 split
 .exact⟨h.c,h.e,h.b,h.r,h.a⟩
 exact h
def Good.w{mO s}(h:Good mO s)n S il I:Good mO (s.w n S il I):=by
 unfold zC.w;split
 .exact⟨h.c,h.e,h.b,h.r,h.a⟩
 refine Good.h ?_;split
 .exact h
 exact h.k n S
def Good.x{mO s}(h:Good mO s)x:Good mO (s.x x mO):=(h.at x.to).m _ (λq=>aB rfl q) (.inr (.inr rfl))
def Good.y{mO s}(h:Good mO s)k to(a:k=0\/k=1):Good mO (s.y k to mO):=(h.at (s.f+1)).m _ (λ_=>rfl) (by rcases a with q|q;exact .inl q;exact .inr (.inl q))
def Good.d{c:Prop}[Decidable c]{mO a b}(h:Good mO a)(e:Good mO b):Good mO (if c then a else b):=by split<;>assumption
def uqW{mO s}(h:Good mO s)(t:s.a.length<s.b)x il I:Good mO (s.q x il I mO):=by
 have i:∀k a,Good mO (s.n k a):=λk a=>by
  refine⟨h.c,?_,λg o p=>?_,h.r,h.a⟩
  .show(s.a++[_]).length<=s.b;rw[zJ,Dd];omega
  show g.a<=(s.a++[_]).length;have:=h.b g o p;rw[zJ];omega
 have j:∀l,Good mO { s with d:=s.d+1,s:=l }:=λ_=>⟨h.c,h.e,h.b,h.r,h.a⟩;exact(h.w _ _ _ _).d <| (h.y _ _ (.inl rfl)).d <| (h.y _ _ (.inr rfl)).d <| (h.x x).d <| (h.h.d <| ((j x.f).l 2).d ((j s.s).x x)).d <| (h.u.at _).d <| ((h.u.at _).m _ (λ_=>rfl) (.inl rfl)).d <| h.u.h.d <| (h.u.at _).d <| (i _ _).d <| (i _ _).d <| (i _ _).d <| (h.l 0).d (h.l 4)
def ZL{mO fU s n R il I}(h:Good mO s):Good mO (s.p n R il I fU mO):=by
 unfold zC.p;split;· exact h.l 4
 split;· exact h.l 3
 refine uqW (s:={ s with b:=s.b+1 }) ⟨h.c,?_,h.b,h.r,h.a⟩ ?_ _ _ _
 .show s.a.length<=s.b+1;have:=h.e;omega
 show s.a.length<s.b+1;have:=h.e;omega
def ZM{mO:Int}{s:zC}(x:uw)(il:Nat)(I:Nat->Int):(s.q x il I mO).b=s.b:=by
 have g:∀s:zC,s.h.b=s.b:=λs=>by unfold zC.h;split<;>rfl
 have e:∀(s:zC) f,(s.m f mO).b=s.b:=λs f=>by unfold zC.m;split<;>rfl
 have i:∀(s:zC) n S,(s.k n S).b=s.b:=λs n S=>by unfold zC.k;split<;>(try split)<;>rfl
 have d:∀{c:Prop} [Decidable c] {a b:zC},a.b=s.b->b.b=s.b->(if c then a else b).b=s.b:=by intros;split<;>assumption
 exact d (d rfl ((g _).trans (d rfl (i _ _ _)))) <| d (e _ _) <| d (e _ _) <| d (e _ _) <| d (d (g _) (d rfl (e _ _))) <| d rfl <| d (e _ _) <| d (g _) <| d rfl <| d rfl <| d rfl <| d rfl <| d rfl rfl
def qP{mO fU:Int}{s:zC}{n:Nat}{R:Nat->uw}{il:Nat}{I:Nat->Int}(d:s.e=false)(a:(s.b:Int)<=fU) :
  (((s.p n R il I fU mO).b:Int)<=fU)/\((s.p n R il I fU mO).e=true/\(s.p n R il I fU mO).b=s.b\/(s.p n R il I fU mO).b=s.b+1):=by
 unfold zC.p;by_cases q:s.f<0\/(n:Int)<=s.f
 .rw[Zp q];exact⟨a,.inl ⟨rfl,rfl⟩⟩
 rw[Zn q];by_cases c:(s.b:Int)=fU
 .rw[Zp c];exact⟨a,.inl ⟨rfl,rfl⟩⟩
 rw[Zn c,ZM];exact⟨by show((s.b+1:Nat):Int)<=fU;omega,.inr rfl⟩
def ZN{n R il I fU mO}:∀(k:Nat) (s:zC),(s.b:Int)<=fU->(fU-s.b).toNat<=k->∃t,Ends n R il I fU mO s t
 |k,s,hf,hk=>by
  cases c:s.e with
  |true=>exact⟨s,.over c⟩
  |false =>
   obtain⟨d,a⟩:=qP (n:=n) (R:=R) (il:=il) (I:=I) (mO:=mO) c hf;rcases a with⟨a,_⟩|a
   .exact⟨_,.go c (.over a)⟩
   cases k with
   |zero=>omega
   |succ k =>
    obtain⟨t,f⟩:=ZN k _ d (by rw[a];omega);exact⟨t,.go c f⟩
def Ends.p{n R il I fU mO s t}(h:Ends n R il I fU mO s t)(a:s.e=false):Ends n R il I fU mO (s.p n R il I fU mO) t:=by
 cases h with
 |over q=>rw[a]at q;cases q
 |go _ q=>exact q
def Ends.d{n R il I fU mO s t}(h:Ends n R il I fU mO s t)(a:s.e=true):t=s:=by
 cases h with
 |over q=>rfl
 |go q _=>rw[a]at q;cases q
def Xs(w:Wl)(a:Oa)(n:Nat):Prop:=∀b o j,a=some (Ad b o)->j<n->w.frozen? (Ad b (o+j))=false
def Xs.of{Q w w' a n S}(h:Xs w a n)(d:Ints Q .i64 w a n S)(k:∀b,Q b->b<w.heap.size->w'.heap[b]?=w.heap[b]?):Xs w' a n:=λb o j e i=>by
 rcases d with m|⟨g,off,c,l,f⟩
 .omega
 obtain⟨rfl,rfl⟩:b=g/\o=off:=by have:=e.symm.trans c;injection this with this;injection this with e1 e2;exact⟨e1,e2⟩
 have:=k b l (ud (f 0 oM));rw[<-h b o j e i];simp only[World.frozen?,this]
def Fm(Q:Np)(w:Wl)(b:Oa)(a:Nat)(M:Nat->Bool):Prop:=a=(rg M 256).length/\Ints Q .i64 w b a (lf (rg M 256))/\Xs w b a
def Fm.h{Q w w' a c M}(h:Fm Q w a c M)(k:Bw w w'):Fm Q w' a c M:=⟨h.1,h.2.1.h k,h.2.2.of h.2.1 λb _ d=>k.block b d⟩
def Fm.g{Q Q' w a c M}(h:Fm Q w a c M)(k:∀b,Q b->Q' b):Fm Q' w a c M:=⟨h.1,h.2.1.g k,h.2.2⟩
def Fm.on{Q w w' a c M}(h:Fm Q w a c M)(k:zS Q w w'):Fm Q w' a c M:=⟨h.1,h.2.1.on k,h.2.2.of h.2.1 λb d _=>k b d⟩
def Fm.le{Q w b a M}(h:Fm Q w b a M):a<=512:=by rw[h.1];exact Uu M 256
def Uw{w0 w a c l}(h:Br w0 w (Sl a l.length c) l):Ints (zF w0 w) .i64 w a l.length (lf l):=by
 obtain⟨P,j,k,n⟩:=h;rcases j with⟨_,e,_⟩|⟨g,cap,e,m,p,o,f,q⟩
 .exact .inl e
 obtain rfl:a=some (Ad g 0):=by injection e
 refine .inr ⟨g,0,rfl,k g m,λi b=>?_⟩;have d:=f i (by simp only[vL,Bl];exact b);rw[Bp,d];simp only[vL,Ev,lf,El,Bb b];rfl
def ZO{w0 w a c l}(h:Br w0 w (Sl a l.length c) l):Xs w a l.length:=λb o j e p=>by
 obtain⟨P,f,r,k⟩:=h;rcases f with⟨_,d,_⟩|⟨g,cap,d,s,q,m,n,i⟩
 .omega
 injection d with e1 e2 e3;subst e;injection e1 with e1;injection e1 with e1 e2;subst e1 e2;rw[Bp];exact(i j oM).2
def utl{w0 w a c M N}(h:Br w0 w (Sl a (rg M 256).length c) (rg M 256))(g:∀b,b<256->M b=N b):Fm (zF w0 w) w a (rg M 256).length N:=by
 have e:=uqV (b:=256) zD g;have d:=Uw h;have f:=ZO h;unfold Fm;rw[<-e];exact⟨Eq.refl _,d,f⟩
def un0{w:Wl}{b o c j:Nat}{v u:Vl}(d:b≠c)(h:w.cell? (Ad b o)=some v):(w.setCell (Ad c j) u).cell? (Ad b o)=some v:=(Bd (a:=(Ad b o)) (Bn d)).trans h
def ui{w:Wl}{b o j:Nat}{v u:Vl}(a:o≠j)(h:w.cell? (Ad b o)=some v):(w.setCell (Ad b j) u).cell? (Ad b o)=some v:=(uu (λe=>a e.symm)).trans h
structure Tp where
 m:Nat
 T:Nat->Nat
 le:m<=500
 e:∀i,T i<=255
def Tp.v(t:Tp)(i:Nat):Nat:=if i<t.m then t.T i else 0
def Tp.n(t:Tp)(i:Nat):Nat:=if i<t.m then i+1 else i
def Tp.a(t:Tp)(i:Nat):t.v i<=255:=by
 unfold Tp.v;split
 .exact t.e i
 omega
def Cq(k a:Int):OpD:=⟨k,0,λ_=>0,a⟩
def Wj(s:LI):OpD:=⟨1,s.length,lf s,0⟩
def vB(b:Int):List Int:=[b,b]
def uv(k a:Int):List OpD:=[Cq k a]
def uL(s:LI):List OpD:=[Wj s]
def Bq(k:Int)(x:List OpD):List OpD:=x++[Cq k 0]
def uM(k:Int)(x y:List OpD):List OpD:=x++y++[Cq k 0]
def ym:List Int:=[10,9,13,92,34,91,93,45,94,32,35,59,0,127,128,255]
def yg(t:Tp)(i:Nat):List Int×Nat :=
 if t.v i%12<7 then (vB (97+t.v i / 12%4:Nat),t.n i)
 else if t.v i%12=7 then ([97,98],t.n i)
 else if t.v i%12=8 then ([0,255],t.n i)
 else if t.v i%12=9 then ([48,57,97,99],t.n i)
 else if t.v i%12=10 then (if 200<t.v i then ([],t.n i) else ([0,96,99,255],t.n i))
 else (vB (lf ym (t.v (t.n i)%16)),t.n (t.n i))
def yo(t:Tp)(e b a:Nat):Nat->Bool->Nat->List OpD×Nat
 |0,_,i=>(uL (yg t (t.n i)).1,(yg t (t.n i)).2)
 |d+1,after,i =>
  let k:=t.v i%20
  let j:=t.n i
  let s:=yg t j
  if k<4\/t.m=j then (uL s.1,s.2)
  else if k=4 then (uv 0 0,j)
  else if k<7 then
   let lo:=if after then 0 else e+1
   if b<=lo then (uL s.1,s.2) else (uv 2 (lo+t.v j%(b-lo):Nat),t.n j)
  else if k<9/\0<a then (uM 5 (uL (yg t (t.n j)).1) (uv 3 (t.v j%a:Nat)),(yg t (t.n j)).2)
  else if k<13 then
   let y:=yo t e b a d true s.2
   (uM 4 (uL s.1) y.1,y.2)
  else if k<16 then
   let x:=yo t e b a d after j
   let y:=yo t e b a d after x.2
   (uM (if k=13 then 4 else 5) x.1 y.1,y.2)
  else if k<18 then
   let c:=t.v s.2%3
   if c=0 then (Bq 6 (uL s.1),t.n s.2)
   else
    let y:=yo t e b a d (c==1) (t.n s.2)
    (if c=1 then Bq 6 (uM 4 (uL s.1) y.1) else Bq 6 (uM 4 (Bq 7 y.1) (uL s.1)),y.2)
  else if k=18 then
   let y:=yo t e b a d after j
   (Bq 7 y.1,y.2)
  else if 0<t.v j%4 then
   let x:=yg t (t.n j)
   let y:=yo t e b a d true x.2
   (Bq 6 (uM 5 (uL x.1) (uM 4 (uL x.1) y.1)),y.2)
  else
   let y:=yo t e b a d after (t.n j)
   (Bq 6 y.1,y.2)
def Ep(n:Nat)(l:List OpD):Prop:=l.length<=n/\∀x∈l,x.sl<=16
def Ep.h{n m l}(h:Ep n l)(a:n<=m):Ep m l:=⟨zP h.1 a,h.2⟩
def xK k a:Ep 1 (uv k a):=⟨zD,λx b=>by obtain rfl:=Bu.1 b;exact zK⟩
def qC{s}(h:s.length<=16):Ep 1 (uL s):=⟨zD,λx a=>by obtain rfl:=Bu.1 a;exact h⟩
def Pw{n x}k(h:Ep n x):Ep (n+1) (Bq k x):=by
 refine⟨?_,λy a=>?_⟩
 .have:=h.1;unfold Bq;simp;omega
 rcases By.1 a with q|q
 .exact h.2 y q
 obtain rfl:=Bu.1 q;exact zK
def yt{n m x y}k(h:Ep n x)(a:Ep m y):Ep (n+m+1) (uM k x y):=by
 refine⟨?_,λz b=>?_⟩
 .have:=h.1;have:=a.1;unfold uM;simp;omega
 rcases By.1 b with q|q
 .rcases By.1 q with q|q
  .exact h.2 z q
  exact a.2 z q
 obtain rfl:=Bu.1 q;exact zK
def vI t i:(yg t i).1.length<=4:=by
 unfold yg;repeat' split
 all_goals simp[vB]
def Wk:Nat->Nat
 |0=>1
 |d+1=>2*Wk d+5
def kH t e g f:∀(d:Nat) (c:Bool) (i:Nat),Ep (Wk d) (yo t e g f d c i).1
 |0,_,i=>qC (zP (vI _ _) oM)
 |d+1,c,i=>by
  have b:=kH t e g f d;have a:∀i,Ep 1 (uL (yg t i).1):=λi=>qC (zP (vI _ _) oM);have j:Wk (d+1)=2*Wk d+5:=rfl;rw[j,yo];dsimp only;repeat' split
  all_goals first
   |exact(a _).h oM
   |exact(xK _ _).h oM
   |exact(yt _ (a _) (xK _ _)).h oM
   |exact(yt _ (a _) (b _ _)).h oM
   |exact(yt _ (b _ _) (b _ _)).h oM
   |exact(Pw _ (a _)).h oM
   |exact(Pw _ (yt _ (a _) (b _ _))).h oM
   |exact(Pw _ (yt _ (Pw _ (b _ _)) (a _))).h oM
   |exact(Pw _ (yt _ (a _) (yt _ (a _) (b _ _)))).h oM
   |exact(Pw _ (b _ _)).h oM
section
open M (OpD ug Gr)
def U2 g j:((Ad g 0):Addr).add j=(Ad g j):=by
 by_cases a:j=0
 .subst a;simp[Addr.add]
 simp[Addr.add,a]
section
variable {α:Type} (f:α->List Value) (k:Nat) (hk:∀x,(f x).length=k)
include hk
def xL(l:List α):(l.flatMap f).length=l.length*k:=by
 induction l with
 |nil=>simp
 |cons x l a=>rw[Eu,zJ,a,hk,Db,Hp];omega
def yA:∀(l:List α) (i j:Nat) (x:α),l[i]?=some x->j<k->(l.flatMap f)[i*k+j]?=(f x)[j]?
 |[],i,j,x,h,_=>by simp at h
 |y::l,0,j,x,h,hj=>by
  simp at h;subst h;rw[Eu,Es (by rw[hk];omega)];simp
 |y::l,i+1,j,x,h,hj=>by
  simp at h;rw[Eu,Fb (by rw[hk,Hp];omega),hk,show(i+1)*k+j-k=i*k+j by rw[Hp];omega];exact yA l i j x h hj
def EV:∀(l:List α) (i j:Nat) (x y:α) (u:Vl),l[i]?=some x->j<k->f y=(f x).set j u->(l.flatMap f).set (i*k+j) u=(l.set i y).flatMap f
 |[],i,j,x,y,u,h,_,_=>by simp at h
 |z::l,0,j,x,y,u,h,hj,e=>by
  simp at h;subst h;rw[Eu,List.set_cons_zero,Eu,e,List.set_append_left _ _ (by rw[hk];omega)];simp
 |z::l,i+1,j,x,y,u,h,hj,e=>by
  simp at h;rw[Eu,List.set_cons_succ,Eu,<-EV l i j x y u h hj e,Ve _ _ (by rw[hk,Hp];omega),hk,show(i+1)*k+j-k=i*k+j by rw[Hp];omega]
end
def zB.n{Q w g n c m cs j}(h:zB Q w (Sl (Sm g 0) n c) m n cs)(d:j<cs.length)u:zB Q (w.setCell (Ad g j) u) (Sl (Sm g 0) n c) m n (cs.set j u):=by
 rcases h with⟨e,_⟩|⟨s,cap,e,r,p,o,b,l⟩
 .cases e
 cases e;have k:(w.cell? (Ad g j)).isSome=true:=by rw[b j d,Bb d];rfl
 have f:∀{i:Nat},i≠j->((Ad g j):Addr)≠(Ad g i):=λh q=>h (by injection q with _ q;exact q.symm);refine .inr ⟨g,c,rfl,r,by rw[Hb,p],o,λi a=>?_,λi a=>⟨?_,?_⟩⟩
 .rw[Hb]at a;by_cases e:i=j
  .subst e;rw[Jm k,Ie a]
  rw[La (f e),Oz oM];exact b i a
 .by_cases e:i=j
  .subst e;rw[Jm k];rfl
  rw[La (f e)];exact(l i a).1
 rw[Et];exact(l i a).2
def zB.f{Q w v n a cs}(h:zB Q w v a n cs)(o:0<n):∃g c,v=Sl (Sm g 0) n c/\Q g/\n<=c/\(∀j,j<cs.length->w.cell? (Ad g j)=cs[j]?/\w.frozen? (Ad g j)=false):=by
 rcases h with⟨_,h,_⟩|⟨g,cap,e,k,m,b,d,l⟩
 .omega
 refine⟨g,cap,e,k,b,λj i=>⟨d j i,(l j ?_).2⟩⟩;have:n*a<=cap*a:=Kz _ b;omega
def Wm{Q w a f n c cs i e}(b:prog.underlying i=some (.slice e))(h:zB Q w (Sl a n c) f n cs)(p:∀u∈cs,u.oneCell'=true):Src prog f i (Sl a n c) n cs w:=by
 rcases h with⟨e,k,l⟩|⟨g,cap,e,s,m,q,o,r⟩
 .obtain rfl:a=none:=by injection e
  rw[k,l];exact Src.ofNil _ b c
 obtain rfl:a=some (Ad g 0):=by injection e
 refine Src.ofSlice (P:=prog) _ b (Ad g 0) _ c cs m (λj u d=>?_) p;rw[U2,o j (Bz.1 d).1];exact d
def Ints.d{Q k w a n c S f e}(b:prog.underlying f=some (.slice e))(h:Ints Q k w a n S):Src prog 1 f (Sl a n c) n (uO k S n) w:=by
 cases a with
 |some x=>exact h.e b
 |none =>
  have g:n=0:=by
   rcases h with h|⟨_,_,e,_⟩
   .exact h
   cases e
  subst g;exact Src.ofNil w b c
structure OC where
 d:OpD
 a:Option Addr
 c:Nat
def Ml(x:OC):List Value:=[Iv x.d.e,Sl x.a x.d.sl x.c,Iv x.d.f]
def PK x:(Ml x).length=3:=rfl
def ve(l:List OC):List Value:=l.flatMap Ml
def EW l:(ve l).length=l.length*3:=xL Ml 3 PK l
def PM l:∀u∈ve l,u.oneCell'=true:=λu a=>by
 let⟨x,_,h⟩:=Kj.1 a;simp[Ml]at h;rcases h with rfl|rfl|rfl<;>rfl
structure Gp(P:Np)(L:Nat->Nat)(w:Wl)(v:Vl)(l:List OC):Prop where
 k:zB (λb=>P b/\L b=0) w v 3 l.length (ve l)
 m:∀i x,l[i]?=some x->zB (λb=>P b/\L b=i+1) w (Sl x.a x.d.sl x.c) 1 x.d.sl (uO .i64 x.d.set x.d.sl)
def Gp.on{P L w w' v l}(h:Gp P L w v l)(t:zS P w w'):Gp P L w' v l :=
 ⟨h.k.on (λb a=>t b a.1),λi x c=>(h.m i x c).on (λb a=>t b a.1)⟩
def Gp.g{P d L c w v l}(h:Gp P L w v l)(t:∀b,P b->d b/\c b=L b):Gp d c w v l :=
 ⟨uA h.k (λb a=>⟨(t b a.1).1,(t b a.1).2.trans a.2⟩),λi x e=>uA (h.m i x e) (λb a=>⟨(t b a.1).1,(t b a.1).2.trans a.2⟩)⟩
def df(D:List OpD):Nat->OpD:=λi=>D.getD i default
def Px{D i x}(h:D[i]?=some x):df D i=x:=by unfold df;rw[El,h];rfl
def U3{l:List OC}{i:Nat}{x:OC}(h:l[i]?=some x):df (l.map (·.d)) i=x.d:=Px (by rw[Ev,h];rfl)
def yJ{Q k w a n c S}(h:zB Q w (Sl a n c) 1 n (uO k S n)):Ints Q k w a n S:=by
 let⟨b,c',e,h⟩:=h.c;cases e;exact h
def Gp.e{P L w a n c l}(h:Gp P L w (Sl a n c) l):zM P w a l.length (df (l.map (·.d))):=by
 rcases h.k with⟨_,e,_⟩|⟨g,cap,e,t,v,u,q,x⟩
 .exact .inl e
 obtain rfl:a=some (Ad g 0):=by injection e
 refine .inr ⟨g,0,rfl,t.1,λi r=>?_⟩;have o:=Bb r;have f:∀j,j<3->w.cell? (Ad g (0+i*3+j))=(Ml l[i])[j]?:=λj s=>by
  rw[show 0+i*3+j=i*3+j by omega,q _ (by rw[EW];omega)];exact yA Ml 3 PK l i j _ o s
 rw[U3 o];exact⟨f 0 oM,⟨l[i].a,l[i].c,f 1 oM,(yJ (h.m i _ o)).g (λb p=>p.1)⟩,f 2 oM⟩
def zQ(P:Np)(w:Wl)(v:Vl)(D:List OpD):Prop:=∃L l,Gp P L w v l/\l.map (·.d)=D
def zQ.on{P w w' v D}(h:zQ P w v D)(t:zS P w w'):zQ P w' v D:=by
 obtain⟨L,l,h,e⟩:=h;exact⟨L,l,h.on t,e⟩
def zQ.g{P a w v D}(h:zQ P w v D)(t:∀b,P b->a b):zQ a w v D:=by
 obtain⟨L,l,h,e⟩:=h;exact⟨L,l,h.g (λb c=>⟨t b c,rfl⟩),e⟩
def zQ.a{P w v D}(h:zQ P w v D):∃a c,v=Sl a D.length c/\D.length<=c:=by
 obtain⟨L,l,h,e⟩:=h;have d:l.length=D.length:=by rw[<-e,Bl]
 rw[<-d];rcases h.k with⟨rfl,e,_⟩|⟨g,cap,rfl,j,i,b,f,m⟩
 .exact⟨none,0,by rw[e],oM⟩
 exact⟨_,_,rfl,b⟩
def zQ.e{P w a n c D}(h:zQ P w (Sl a n c) D):zM P w a D.length (df D):=by
 obtain⟨L,l,h,rfl⟩:=h;rw[Bl];exact h.e
def Ep.c{n D}(h:Ep n D)(b:n<=1048576):xx D.length (df D):=by
 refine⟨zP h.1 b,λi a=>?_⟩;rw[Px (Bb a)];exact zP (h.2 _ (Gi a)) oM
end
def zA.r{C w w'}(h:zA C w w'){P}(a:∀b,P b->b<w.heap.size/\¬C b):zS P w w':=λb c=>h.d b (a b c).1 (a b c).2
def zT.m{Q w w'}(h:zT Q w w'):zA Q w w':=⟨h.os,h.g,h.f,h.l,h.d⟩
def zA.q{w w'}(h:Kf w w'):Bw w w':=h.below zD (λ_ _ q=>q)
def Below.cD{w w'}(h:Bw w w'):Kf w w':=⟨h.os,h.tape,h.output,h.size,λb a _=>h.block b a⟩
def yQ{w W W' Q}(k:Kf w W)(g:zT Q W W')(h:∀b,Q b->w.heap.size<=b):Kf w W' :=
 ⟨g.os.trans k.os,g.g.trans k.g,g.f.trans k.f,zP k.l g.l,λb a q=>(g.d b (Ba a k.l) (λc=>oH (h b c))).trans (k.d b a q)⟩
def M9 P w k a:zB P w (Sl none (Cq k a).sl 0) 1 (Cq k a).sl (uO .i64 (Cq k a).set (Cq k a).sl):=.inl ⟨rfl,rfl,rfl⟩
def Gp.f{w wr W2 W4}{L L2:Nat->Nat}{v v4 l l2}(h:Gp (zF w wr) L wr v l)(G:w.heap.size<=wr.heap.size)(k:Kf wr W2)(s:∀i x,l2[i]?=some x->zB (λb=>zF wr W2 b/\L2 b=i+1) W2 (Sl x.a x.d.sl x.c) 1 x.d.sl (uO .i64 x.d.set x.d.sl))(own:zB (λb=>(zF w wr b/\L b=0)\/W2.heap.size<=b) W4 v4 3 (l.length+l2.length) (ve l++ve l2))(g4:zT (λb=>zF w wr b/\L b=0) W2 W4)(H:W4.heap.size<=W2.heap.size+1)(F:0<l2.length) :
  Gp (zF w W4) (λb=>if b<wr.heap.size then L b else if b<W2.heap.size then L2 b+l.length else 0) W4 v4 (l++l2):=by
 have I:=k.l;have J:=g4.l;refine⟨?_,λi x n=>?_⟩
 .have A:l.length+l2.length=(l++l2).length:=sM;have z:ve l++ve l2=ve (l++l2):=by simp[ve]
  rw[<-A,<-z];rcases own with⟨_,q,_⟩|⟨g,cap,e,B,t,u,o,y⟩
  .omega
  refine .inr ⟨g,cap,e,?_,t,u,o,y⟩;have p:g<W4.heap.size:=by
   have r:0<(ve l++ve l2).length:=(by rw[zJ,EW,EW];omega);have h:=o 0 r;rw[Bb r]at h;exact ud h
  rcases B with⟨⟨C,D⟩,E⟩|q
  .exact⟨⟨C,p⟩,by simp only[Zp D,E]⟩
  refine⟨⟨oM,p⟩,?_⟩;simp only[Zn (show ¬g<wr.heap.size by omega),Zn (show ¬g<W2.heap.size by omega)]
 by_cases e:i<l.length
 .rw[Es e]at n;refine uA (((h.m i x n).on (w':=W2) (λb j=>k.d b j.1.2 (λq=>q))).on (w':=W4) (λb j=>g4.d b (oH j.1.2) (λq=>oG j.2 q.2))) (λb j=>⟨⟨j.1.1,by have:=j.1.2;omega⟩,?_⟩);simp only[Zp j.1.2,j.2]
 rw[Fb oM]at n;refine uA ((s _ x n).on (w':=W4) (λb j=>g4.d b j.1.2 (λq=>oG j.1.1 q.1.2))) (λb j=>⟨⟨by have:=j.1.1;omega,by have:=j.1.2;omega⟩,?_⟩);have:=j.1.1;simp only[Zn (show ¬b<wr.heap.size by omega),Zp j.1.2,j.2];omega
def Mk(D:List OpD)(w:Wl)(e:Ending)(w':Wl):Prop:=∃a c,e=Rt (Sl a D.length c)/\zQ (zF w w') w' (Sl a D.length c) D/\Kf w w'
def MT{w W}{x:OC}(k:Kf w W)(o:zB (λb=>zF w W b) W (Sl x.a x.d.sl x.c) 1 x.d.sl (uO .i64 x.d.set x.d.sl)){t:TypeId} :
  Mk [x.d] w (Rt (Sl (Sm W.heap.size 0) 1 1)) (W.alloc (Oc #[Iv x.d.e,Sl x.a x.d.sl x.c,Iv x.d.f] t)):=by
 have z:=k.l;have n:Kf W (W.alloc (Oc #[Iv x.d.e,Sl x.a x.d.sl x.c,Iv x.d.f] t)):=zY;have p:(W.alloc (Oc #[Iv x.d.e,Sl x.a x.d.sl x.c,Iv x.d.f] t)).heap.size=W.heap.size+1:=sM;have g:=Eo W (Oc #[Iv x.d.e,Sl x.a x.d.sl x.c,Iv x.d.f] t);refine⟨_,_,rfl,⟨λb=>if b<W.heap.size then 1 else 0,[x],⟨.inr ⟨W.heap.size,1,rfl,⟨⟨z,oM⟩,sM⟩,rfl,zD,λj h=>?_,λj h=>⟨?_,?_⟩⟩,λi y m=>?_⟩,rfl⟩,k.c n⟩
 .simp only[World.cell?,g];match j,h with
  |0,_=>rfl
  |1,_=>rfl
  |2,_=>rfl
 .simp only[World.cell?,g];match j,h with
  |0,_=>rfl
  |1,_=>rfl
  |2,_=>rfl
 .simp only[World.frozen?,g];rfl
 match i,m with
 |0,m =>
  cases m;refine uA (o.on (λb g=>n.d b g.2 (λq=>q))) (λb g=>⟨⟨g.1,by have:=g.2;omega⟩,by simp only[Zp g.2]⟩)
def N0{w x b l m news t k e}ty(i:vJ t e b l)(u:0<b)(a:Src prog b k x m news w)(B:m<=16777216) :
  ∃c w',(Builtin.append_ #[t,k] ty #[nS,x]).run prog w=.ok c w'/\zB (zF w w') w' c b m news/\Kf w w':=by
 by_cases r:0<m
 .let⟨c,w',o,f,p,A⟩:=yN (Q:=λ_=>False) (n:=0) (cs:=[]) ty i (.inl ⟨rfl,rfl,rfl⟩) a oM;rw[Bp,Hm]at f;refine⟨c,w',o,?_,p.m⟩;rcases f with q|⟨g,cap,e,s,v,y,j,z⟩
  .exact .inl q
  refine .inr ⟨g,cap,e,⟨?_,?_⟩,v,y,j,z⟩
  .rcases s with q|q
   .exact q.elim
   exact q
  have d:0<news.length:=by rw[a.newsLen];exact Pi r u
  have h:=j 0 d;rw[Bb d]at h;exact ud h
 obtain rfl:m=0:=oM;have d:=a.newsLen;obtain rfl:news = []:=Ic oM;exact⟨_,_,Yd ty i a,.inl ⟨rfl,rfl,rfl⟩,Cc⟩
def MU{ops:Array Oper}{rest:List Oper}{o:Oper}{a:Act}{d:Exit->Act->World->Prop}{w:Wl}(n:o.guard=none)(s x:Operand)(t f:TypeId)(q:o.op=.call { callee:=.builtin .append,args:=#[s,x],argTypes:=#[t,f] })
  {y:Vl} {e:TypeId} {b g m:Nat} {news:List Value} (u:a.eval s=nS) (A:a.eval x=y) (k:vJ t e b g) (z:0<b) (v:Src prog b f y m news w) (p:m<=16777216)
  (h:∀c w',zB (zF w w') w' c b m news->Kf w w'->wpList prog ops d rest (a.put o.dst c) w'):wpList prog ops d (o::rest) a w:=by
 refine wpList_plain n λK l=>?_;let⟨c,w',r,i,j⟩:=N0 o.type k z v p;exact yO q u A r (l _ _ (h c w' i j))
def vU k x w:Cs 54 #[Iv k,Iv x] w (Mk (uv k x) w):=by
 go_enter func54,ntmps54;go_wp2;go_ret;exact MT (x:=⟨Cq k x,none,0⟩) Cc (M9 _ _ k x)
def jQ Q a c s w(h:Ints Q .i64 w a s.length (lf s))(n:s.length<=1048576) :
  Cs 52 #[Sl a s.length c] w (Mk (uL s) w):=by
 have j:=ua h;generalize l:s.length=m at *;go_enter func52,ntmps52;go_wp2_with (at_builtin;refine MU rfl _ _ 25 25 rfl rfl rfl jE oM (Ints.d underlying25 j) oM ?_;intro o W1 b g;obtain⟨e,f,rfl⟩:=uj b;have k:Hid (zB (zF w W1) W1 (Sl e m f) 1 m (uO .i64 (lf s) m)):=b;have i:Hid (Kf w W1):=g;clear b g);go_ret;subst l;exact MT (x:=⟨Wj s,e,f⟩) i k
def uP b w:Cs 53 #[Iv b] w λe w'=>e=Rt (Sl (Sm w.heap.size 0) 2 2)/\w'=w.alloc (Oc #[Iv b,Iv b] 3):=by
 go_enter func53,ntmps53;go_wp2;go_ret;exact⟨rfl,rfl⟩
def MV{W g x t}(b:W.heap[g]?=some (Oc #[Iv x.d.e,Sl x.a x.d.sl x.c,Iv x.d.f] t)):Src prog 3 67 (Sl (Sm g 0) 1 1) 1 (Ml x) W:=Xh underlying67 b rfl rfl rfl
def DL{W g k x t}(a:W.heap[g]?=some (Oc #[Iv k,nS,Iv x] t)):Src prog 3 67 (Sl (Sm g 0) 1 1) 1 (ve [⟨Cq k x,none,0⟩]) W :=
 MV (x:=⟨Cq k x,none,0⟩) a
def MW(w:Wl)(D:List OpD)(v i:Vl)(wr:Wl):Prop :=
 ∃(k:Nat) (L:Nat->Nat) (l:List OC),k<=D.length/\i=Iv (k:Int)/\Gp (zF w wr) L wr v l/\l.map (·.d)=D.take k/\Kf w wr
def N1{w wr W1 W4 D d m n L l u h v j v4 e t}(g:Gp (zF w wr) L wr (Sl u m v) l)(r:Kf w wr)(p:Kf wr W1)(E:zB (zF wr W1) W1 (Sl h d.sl j) 1 d.sl (uO .i64 d.set d.sl))(z:l.map (·.d)=D.take m/\l.length=m/\D.length=n)(o:D[m]?=some d)(F:zB (λb=>(zF w wr b/\L b=0)\/(W1.drew.alloc (Oc e t)).heap.size<=b) W4 v4 3 (m+1) (ve l++Ml ⟨d,h,j⟩))(g4:zT (λb=>zF w wr b/\L b=0) (W1.drew.alloc (Oc e t)) W4)(G:W4.heap.size<=(W1.drew.alloc (Oc e t)).heap.size+1) :
  MW w D v4 (Iv ((m+1:Nat):Int)) W4:=by
 obtain⟨A,B,H⟩:=z;have C:=(Bz.1 o).1;have I:=p.l;have s:Kf wr (W1.drew.alloc (Oc e t)):=p.c ((Ik W1).c zY);have y:(W1.drew.alloc (Oc e t)).heap.size=W1.heap.size+1:=sM;refine⟨m+1,_,l++[⟨d,h,j⟩],C,rfl,Gp.f (L2:=λ_=>1) g r.l s (λi x k=>?_) (by rw[B,show ve [(⟨d,h,j⟩:OC)]=Ml ⟨d,h,j⟩ by simp[ve]];exact F) g4 G sM,?_,?_⟩
 .match i,k with
  |0,k =>
   cases k;exact uA (E.on (w':=W1.drew.alloc (Oc e t)) (λb g=>Iu W1.drew _ _ g.2)) (λb g=>⟨⟨g.1,by rw[y];have:=g.2;omega⟩,rfl⟩)
 .rw[Dt,A,Jl,o];rfl
 exact yQ (r.c s) g4 (λb q=>q.1.1)
def DM Q a c D w(p:zM Q w a D.length (df D))(C:xx D.length (df D)) :
  Cs 112 #[Sl a D.length c] w (Mk D w):=by
 obtain⟨hn,R⟩:=C;have T:=ua p;have aa:=ua R;generalize s:D.length=n at *;go_enter func112,ntmps112;go_wp2;go_loopw [3,4] (λv i wr=>MW w D v i wr) (λ_ i _=>n-(intOf i).toNat)
 .exact⟨0,λ_=>0,[],zK,rfl,⟨.inl ⟨rfl,rfl,rfl⟩,λi x E=>by simp at E⟩,rfl,Cc⟩
 obtain⟨m,L,l,hm,rfl,t,u,g⟩:=hrel;rw[s]at hm;have A:l.length=m:=by rw[<-Bl (f:=(·.d)),u,Fw,s];omega
 by_cases O:m<n
 .have p:=T.h g.q;rcases p with h0|⟨b,off,rfl,hq,p⟩
  .omega
  let⟨c0,⟨sa,sc,c1,C⟩,c2⟩:=p m O;have Z:=ua C;have R:=aa m O;have hlt':(m:Int)<(n:Int):=oM;have r:=t.k;rw[A]at r;obtain⟨I,J,rfl⟩:=uj r;have F:=ua t;have X:=ua g;have H:Hid (l.map (·.d)=D.take m/\l.length=m/\D.length=n):=⟨u,A,s⟩;have U:Hid (D[m]?=some (df D m)):=by
   show D[m]?=some (df D m);rw[Bb oM,Px (Bb oM)]
  generalize df D m=d at *;go_wp2_with (at_builtin;refine MU rfl _ _ 25 25 rfl rfl rfl jE oM (Ints.d underlying25 Z) oM ?_;intro v1 W1 B g;obtain⟨j,o,rfl⟩:=uj B;have Y:Hid (zB (zF wr W1) W1 (Sl j d.sl o) 1 d.sl (uO .i64 d.set d.sl)):=B;have G:Hid (Kf wr W1):=g;clear B g);have z:=ua G.q;have d0:=ue c0 z;have d2:=ue c2 z;go_region_law (refine jN rfl (.tmp 19) (.tmp 32) 67 67 rfl (v:=Sl I m J) (y:=Sl (Sm W1.heap.size 0) 1 1) (by simp[Act.eval]) (by simp[Act.eval]) Re (Q:=λb=>zF w wr b/\L b=0) (n:=m) (cs:=ve l) (news:=Ml ⟨d,j,o⟩) (by have h:=F.k;rw[H.o.2.1]at h;exact h.on (w':=W1.drew.alloc (Oc #[Iv d.e,Sl j d.sl o,Iv d.f] 185)) (λx E=>(uf z.drew (zO W1.drew)).block x E.1.2)) (MV (W:=W1.drew.alloc (Oc #[Iv d.e,Sl j d.sl o,Iv d.f] 185)) (x:=⟨d,j,o⟩) (Eo W1.drew _)) oM ?_;intro v4 W4 P N S;have V:=ua (N1 F X G Y H U P N S);clear P N S);all_goals go_wp2
  all_goals go_roundw
  all_goals first|exact V|(simp[intOf];omega)
 obtain rfl:m=n:=oM;go_wp2;go_ret;have r:=t.k;rw[A,<-s]at r;obtain⟨I,J,rfl⟩:=uj r;rw[Kg oM]at u;exact⟨_,_,rfl,⟨L,l,t,u⟩,g⟩
def N2{P:Np}{L:Nat->Nat}{W}(k a:Int):∀i x,[(⟨Cq k a,none,0⟩:OC)][i]?=some x->zB (λb=>P b/\L b=i+1) W (Sl x.a x.d.sl x.c) 1 x.d.sl (uO .i64 x.d.set x.d.sl):=λi x e=>by
 match i,e with
 |0,e=>cases e;exact .inl ⟨rfl,rfl,rfl⟩
def DN{w wr W2 W4 L v v4 l D n}k x(h:Gp (zF w wr) L wr v l)(i:Kf w wr)(m:Kf wr W2)(e:l.map (·.d)=D)(j:l.length=n)(own:zB (λb=>(zF w wr b/\L b=0)\/W2.heap.size<=b) W4 v4 3 (n+1) (ve l++ve [⟨Cq k x,none,0⟩]))(g4:zT (λb=>zF w wr b/\L b=0) W2 W4)(p:W4.heap.size<=W2.heap.size+1):Mk (D++[Cq k x]) w (Rt v4) W4:=by
 have g:=Gp.f (L2:=λ_=>0) h i.l m (N2 k x) (by rw[j];exact own) g4 p sM;have o:(D++[Cq k x]).length=n+1:=by rw[<-e,<-j];simp
 obtain⟨a,c,rfl⟩:=uj own;rw[<-o]at g ⊢;exact⟨a,c,rfl,⟨_,_,g,by rw[Dt,e];rfl⟩,yQ (i.c m) g4 (λb q=>q.1.1)⟩
def Ym{Q} k a c D w(u:zM Q w a D.length (df D))(o:xx D.length (df D)) :
  Cs 120 #[Iv k,Sl a D.length c] w (Mk (Bq k D) w):=by
 have E:=o.1;have q:=ua u;have t:=ua o;go_enter func120,ntmps120;go_wp2_with fail;refine(DM Q a c D w q t).mono ?_;rintro e w1 ⟨B,C,rfl,⟨L,l,v,j⟩,y⟩;have z:l.length=D.length:=by rw[<-j,Bl]
 have g:=ua v;have s:=ua y;have f:Hid (l.map (·.d)=D/\l.length=D.length):=⟨j,z⟩;go_wp2_with (at_builtin;refine jM rfl _ _ 67 67 rfl rfl rfl Re (Q:=λb=>zF w w1 b/\L b=0) (n:=D.length) (cs:=ve l) (news:=ve [⟨Cq k 0,none,0⟩]) (by have h:=g.k;rw[f.o.2]at h;exact h.on (λx A=>Iu w1 _ _ A.1.2)) (DL (Eo w1 _)) oM ?_;intro v4 W4 m i p;have r:Hid (Mk (Bq k D) w (Rt v4) W4):=DN k 0 g s zY f.1 f.2 m i p;clear m i p);go_ret;exact r
def jR{Q}{Q'} k a C c c' D g w(P:zM Q w a D.length (df D))(E:xx D.length (df D))(R:zM Q' w C g.length (df g))(F:xx g.length (df g))(X:0<g.length) :
  Cs 51 #[Iv k,Sl a D.length c,Sl C g.length c'] w (Mk (uM k D g) w):=by
 have hn:=E.1;have hn':=F.1;have T:=ua P;have W:=ua E;have HB':=ua R;have HS':=ua F;clear P E R F;go_enter func51,ntmps51;go_wp2_with fail;refine(DM Q a c D w T W).mono ?_;rintro e w1 ⟨Z,c1,rfl,⟨L,l,t,j⟩,u⟩;have v:l.length=D.length:=by rw[<-j,Bl]
 have I:=ua t;have A:=ua u;have s:Hid (l.map (·.d)=D/\l.length=D.length):=⟨j,v⟩;clear t u j v;go_wp2_with fail;refine(DM Q' C c' g w1 (HB'.h A.q) HS').mono ?_;rintro e Y ⟨a2,c2,rfl,⟨L2,l2,t,j⟩,u⟩;have v:l2.length=g.length:=by rw[<-j,Bl]
 have J:=ua t;have B:Hid (Kf w1 Y):=u;have o:Hid (l2.map (·.d)=g/\l2.length=g.length):=⟨j,v⟩;clear t u j v;go_wp2_with (first|(at_builtin;refine jM rfl _ _ 67 67 rfl rfl rfl Re (Q:=λb=>zF w w1 b/\L b=0) (n:=D.length) (cs:=ve l) (m:=g.length) (news:=ve l2) (by have h:=I.o.k;rw[s.o.2]at h;exact h.on (λx G=>B.o.d x G.1.2 (λq=>q))) (by have h:=J.o.k;rw[o.o.2]at h;exact Wm underlying67 h (PM _)) oM ?_;intro v3 i r p y;obtain⟨O,c3,rfl⟩:=uj r;have H:Hid (∃z,Gp (zF w i) z i (Sl O (D.length+g.length) c3) (l++l2)):=⟨_,Gp.f I.o A.o.l B.o J.o.m (by rw[s.o.2,o.o.2];exact r) p y (by rw[o.o.2];exact X)⟩;have V:Hid (Kf w i):=yQ (A.o.c B.o) p (λb q=>q.1.1);clear r p y;let⟨z,S⟩:=H.o;have N:Hid (Gp (zF w i) z i (Sl O (D.length+g.length) c3) (l++l2)):=S;clear H S)|(at_builtin;refine jM rfl _ _ 67 67 rfl rfl rfl Re (Q:=λb=>zF w i b/\z b=0) (n:=D.length+g.length) (cs:=ve (l++l2)) (news:=ve [⟨Cq k 0,none,0⟩]) (by have h:=N.o.k;rw[zJ,s.o.2,o.o.2]at h;exact h.on (λx G=>Iu i _ _ G.1.2)) (DL (Eo i _)) oM ?_;intro v4 W4 r p y;have U:Hid (Mk (uM k D g) w (Rt v4) W4):=DN k 0 N.o V.o zY (by rw[Dt,s.o.1,o.o.1]) (by rw[zJ,s.o.2,o.o.2]) r p y;clear r p y));go_ret;exact U
def Bk(k:IntKind)(w0:Wl)(z:LI)(v:Vl)(wr:Wl):Prop:=zB (zF w0 wr) wr v 1 z.length (uO k (lf z) z.length)/\Kf w0 wr
def GQ k l x:uO k (lf l) l.length++[.int k x]=uO k (lf (l++[x])) (l.length+1):=by
 unfold uO;rw[List.range_succ,Dt];congr 1
 .refine Vi λi a=>?_;have:=List.mem_range.1 a;simp[lf,Es this]
 simp[lf]
def Bk.nil{k w0 wr}(h:Kf w0 wr):Bk k w0 [] nS wr:=⟨.inl ⟨rfl,rfl,rfl⟩,h⟩
def Bk.d{k w0 wr f a l v5 x}(j:Kf w0 wr)(m:Kf wr f)(own:zB (λb=>zF w0 wr b\/f.heap.size<=b) a v5 1 (l.length+1) (uO k (lf l) l.length++[.int k x]))(g:zT (zF w0 wr) f a):Bk k w0 (l++[x]) v5 a:=by
 have s:(l++[x]).length=l.length+1:=sM;refine⟨?_,yQ (j.c m) g (λb q=>q.1)⟩;rw[GQ]at own;rw[s];have u:=j.l;have zk':=m.l;rcases own with⟨_,q,_⟩|⟨b,cap,e,t,o,p,i,r⟩
 .omega
 refine .inr ⟨b,cap,e,⟨?_,?_⟩,o,p,i,r⟩
 .rcases t with q|q
  .exact q.1
  omega
 have n:0<(uO k (lf (l++[x])) (l.length+1)).length:=by rw[yH];omega
 have h:=i 0 n;rw[Bb n]at h;exact ud h
def Bk.a{k w0 wr l v}(h:Bk k w0 l v wr):∃a c,v=Sl a l.length c:=uj h.1
def Bk.c{k w0 wr l a n c}(h:Bk k w0 l (Sl a n c) wr):Ints (zF w0 wr) k wr a l.length (lf l):=by
 let⟨b,c',e⟩:=uj h.1;injection e with e1 e2 e3;subst e1 e2 e3;exact yJ h.1
def qK(wr:Wl)(x:Int):Src prog 1 22 (Sl (Sm wr.heap.size 0) 1 1) 1 [Bv x] (wr.alloc (Oc #[Bv x] 5)):=qg underlying22 rfl rfl rfl
def ur w m:Kf w (w.drewN m):=zA.j (Be (Qt w.heap.size w) m) (λk a _=>a)
def Ei.y{Q t a w w'}(h:Ei Q w a t)(k:Kf w w'):Ei Q w' a t:=Ints.h h k.q
def use t i(d:i<=t.n):0<=(Hg t i).1/\(Hg t i).1<=255/\i+(Hg t i).2<=t.n:=by
 have b1:=t.h (i+1);have e:=Zj (t.T (i+2));have f:=Zj (t.T (i+3));unfold Hg;split
 .simp;omega
 split
 .simp;omega
 split
 .simp;omega
 split
 .simp;omega
 split
 .simp;omega
 split
 .rename_i h;obtain⟨_,a,b,c⟩:=h;simp;omega
 simp;omega
def kt t i c(b:i<=t.n):0<=(Bc t i c).1/\(Bc t i c).1<=255/\i+(Bc t i c).2<=t.n:=by
 have b1:=t.h i;have a:=use t i b;unfold Bc;split
 .simp;omega
 split
 .exact a
 split
 .simp;omega
 split
 .simp;omega
 simp;omega
def Ij(t:Tx):Nat->Nat->List Int->Option (List Int×Nat)
 |0,_,_=>none
 |f+1,j,z=>if j<t.n/\t.T j=34 then some (z,j+1) else if (Bc t j false).2=0 then none else Ij t f (j+(Bc t j false).2) (z++[(Bc t j false).1])
def Ks(t:Tx)(i:Nat):Option (List Int×Nat):=Ij t (t.n-i) (i+1) []
def SN(k:IntKind)(r:Option (List Int×Nat))(i:Nat)(w:Wl)(e:Ending)(w':Wl):Prop :=
 Kf w w'/\match r with
 |none=>e=.returned (.tuple #[.slice none 0 0,Iv 0])
 |some (z,j)=>∃a c,e=Rt (.tuple #[Sl a z.length c,Iv ((j:Int)-i)])/\Ints (zF w w') k w' a z.length (lf z)
def uha Q t a c i w(hT:Ei Q w a t)(hi:i<t.n) :
  Cs 184 #[Sl a t.n c,Iv i] w (SN .u8 (Ks t i) i w):=by
 have af:=t.le;have HT:=ua hT;let⟨r,N⟩:=nm (Ks t i);rw[N];go_enter func184,ntmps184;go_wp2;go_loopw [6,7] (λv u wr=>∃(f j:Nat) (z:LI),j<=t.n/\i<j/\t.n-j<f/\u=Iv j/\z.length<=j/\Bk .u8 w z v wr/\Ij t f j z=r) (λ_ u _=>t.n-(intOf u).toNat)
 .exact⟨t.n-i,i+1,[],oM,oM,oM,by go_num,sM,Bk.nil Cc,N⟩
 obtain⟨f,j,z,S,ae,hf,rfl,hz,D,V⟩:=hrel;obtain⟨f,rfl⟩:∃q,f=q+1:=⟨f-1,oM⟩;obtain⟨va,vc,rfl⟩:=D.a;have l:Hid (Bk .u8 w z (Sl va z.length vc) wr):=D;have R:Hid ((if j<t.n/\t.T j=34 then some (z,j+1) else if (Bc t j false).2=0 then none else Ij t f (j+(Bc t j false).2) (z++[(Bc t j false).1]))=r):=V;have o:Hid (Ei Q wr a t):=HT.o.y D.2;clear D V N;by_cases J:j<t.n/\t.T j=34
 .obtain⟨L,U⟩:=J;obtain⟨b,off,rfl,_,x⟩:=o.o.at L;have O:=x j L;rw[U]at O;have hq1':(j:Int)<t.n:=oM;clear x;go_wp2;go_ret2;have e:=R.o;rw[Zp ⟨L,U⟩]at e;subst e;exact⟨l.o.2,_,_,by congr 3,l.o.c⟩
 have P:Hid (¬(j<t.n/\t.T j=34)):=J;let⟨x1,x2,X⟩:=kt t j false S;have C:Hid (∀w,Ei Q w a t->Cs 209 #[Sl a t.n c,Iv j,Bf] w (Rq (Bc t j false).1 ((Bc t j false).2:Nat) w)):=λw h=>GP Q t a c j false w h S;have I:Hid ((if (Bc t j false).2=0 then none else Ij t f (j+(Bc t j false).2) (z++[(Bc t j false).1]))=r):=by
  have:=R.o;rw[Zn J]at this;exact this
 generalize Bc t j false=p at *;obtain⟨k,B⟩:=p;simp only at x1 x2 X C I;have Y:Hid (∀W1,Kf wr W1->¬B=0->∀v5 s,zB (λb=>zF w wr b\/W1.heap.size<=b) s v5 1 (z.length+1) (uO .u8 (lf z) z.length++[Bv k])->zT (zF w wr) W1 s->∃(f A:Nat) (z:LI),A<=t.n/\i<A/\t.n-A<f/\Iv ((j:Int)+B)=Iv A/\z.length<=A/\Bk .u8 w z v5 s/\Ij t f A z=r):=by
  intro W1 ac G v5 s F E;have e:=I;rw[Zn G]at e;exact⟨f,j+B,z++[k],X,oM,oM,sM,sO,Bk.d l.2 ac F E,e⟩
 by_cases G:B=0
 .subst G;have e:=I;rw[Zp rfl]at e;subst e;by_cases g:j<t.n
  .have hjn':(j:Int)<t.n:=oM;obtain⟨b,off,rfl,_,x⟩:=o.at g;have O:=x j g;have y1:(t.T j==34)=false:=by simpa using λq=>P ⟨g,q⟩
   have b0:=t.h j;go_wp2_with fail;refine(C wr o).mono ?_;rintro e W ⟨rfl,m,rfl⟩;go_wp2;go_ret2;exact⟨l.2.c (ur _ _),rfl⟩
  have hjn':¬(j:Int)<t.n:=oM;go_wp2_with fail;refine(C wr o).mono ?_;rintro e W ⟨rfl,m,rfl⟩;go_wp2;go_ret2;exact⟨l.2.c (ur _ _),rfl⟩
 have hp':¬(B:Int)=0:=oM;by_cases g:j<t.n
 .have hjn':(j:Int)<t.n:=oM;obtain⟨b,off,rfl,_,x⟩:=o.at g;have O:=x j g;have y1:(t.T j==34)=false:=by simpa using λq=>P ⟨g,q⟩
  have b0:=t.h j;go_wp2_with fail;refine(C wr o).mono ?_;rintro e W ⟨rfl,m,rfl⟩;have H:=Y _ ((ur wr m).c (Gh _ (Oc #[Bv k] 5))) G;have H:=H;have ab:Hid (Src prog 1 22 (Sl (Sm ((wr.drewN m).heap.size) 0) 1 1) 1 [Bv k] ((wr.drewN m).alloc (Oc #[Bv k] 5))):=qK _ _;have aa:=ua (l.1.on (λb hb=>((ur wr m).c (Gh _ (Oc #[Bv k] 5))).d b hb.2 (λq=>q)));go_wp2_with (at_builtin;refine jM rfl _ _ 22 22 rfl rfl rfl jF (Q:=zF w wr) (n:=z.length) (cs:=uO .u8 (lf z) z.length) (m:=1) (news:=[Bv k]) aa ab oM ?_;intro v5 s F E ad;have Z:Hid _:=H v5 s F E;clear F E ad);go_roundw;all_goals first
   |exact Z
   |(simp[intOf];omega)
   |omega
 omega
structure Ka where
 e:Int
 f:Int
 a:Int
 to:Int
 b:Int
def cls(E:Nat->Cm)(i:Nat):Bool:=(E i).e==2
def Az(E:Nat->Cm):Nat->Int
 |0=>0
 |i+1=>if cls E i then Az E i-1 else Az E i+1
def Ky(E:Nat->Cm)(i:Nat):Int:=if cls E i then Az E i else Az E i+1
structure C7(E:Nat->Cm)(i:Nat):Prop where
 lo:0<=(E i).e
 hi:(E i).e<=2
 c:0<=(E i).c
 r:0<i->(E (i-1)).c<=(E i).c
 a:0<=Az E (i+1)
def My(E:Nat->Cm)(i:Nat):Prop:=∀j,j<i->C7 E j
def Sx(E:Nat->Cm)(n:Nat):Prop:=My E n/\Az E n=0
def ops(E:Nat->Cm):Nat->List Nat
 |0=>[]
 |i+1=>if cls E i then ops E i else ops E i++[i]
def num(E:Nat->Cm)(i:Nat):Nat:=(ops E i).length
def Da(E:Nat->Cm):Nat->Int->Int
 |0,d=>if d=0 then -1 else 0
 |i+1,d=>if cls E i=false/\d=Az E i+1 then (num E i:Int) else Da E i d
def Kb(E:Nat->Cm)(n:Nat):Nat->Int->Int
 |0,_=>0
 |k+1,d=>if cls E (n-(k+1))=true/\Az E (n-(k+1))=d then (E (n-(k+1))).c else Kb E n k d
def Gv(E:Nat->Cm):Nat->Nat->Int
 |0,_=>0
 |i+1,j=>if cls E i=true/\Da E i (Az E i)=(num E j:Int) then (E i).c else Gv E i j
def CK E i:Az E i<=i:=by
 induction i with
 |zero=>simp[Az]
 |succ i a=>rw[Az];split<;>omega
def xY{E i}(h:My E i):0<=Az E i:=by
 cases i with
 |zero=>simp[Az]
 |succ i=>exact(h i oM).a
def My.h{E i j}(h:My E i)(a:j<=i):My E j:=λk b=>h k oM
def C8 E{i j}(h:i<=j):num E i<=num E j:=by
 induction j with
 |zero =>
   obtain rfl:i=0:=oM;exact zD
 |succ j a =>
  by_cases e:i=j+1
  .subst e;exact zD
  have:=a oM;have b:num E j<=num E (j+1):=by
   unfold num;rw[ops];split<;>simp
  omega
def CL E{i}(h:cls E i=false):num E (i+1)=num E i+1:=by unfold num;rw[ops,h];simp
def LC E{i j}(h:cls E i=false)(c:i<j):num E i<num E j:=by
 have a:=CL E h;have b:=C8 E (show i+1<=j by omega);omega
def CM E i:num E i<=i:=by
 induction i with
 |zero=>exact zD
 |succ i a =>
  unfold num at *;rw[ops];cases cls E i<;>simp<;>omega
def C9 E{n j}(h:j∈ops E n):j<n/\cls E j=false:=by
 induction n with
 |zero=>simp[ops]at h
 |succ n b =>
  rw[ops]at h;cases a:cls E n with
  |true=>rw[a]at h;simp at h;have:=b h;exact⟨oM,this.2⟩
  |false =>
   rw[a]at h;simp at h;rcases h with h|rfl
   .have:=b h;exact⟨oM,this.2⟩
   exact⟨oM,a⟩
def uwg E{j}(b:cls E j=false):∀{n:Nat},j<n->(ops E n)[num E j]?=some j:=by
 intro n;induction n with
 |zero=>intro h;omega
 |succ n c =>
  intro h;by_cases e:j=n
  .subst e;rw[ops,b];simp[num]
  have a:=c oM;rw[ops];cases d:cls E n with
  |true=>simpa using a
  |false =>
   simp only[Nh,if_false];rw[Es (LC E b oM)];exact a
structure uxK(E:Nat->Cm)(i:Nat):Prop where
 f:Da E i 0 = -1
 ge:∀d,1<=d->d<=Az E i->0<=Da E i d
 lt:∀d,0<=d->d<=Az E i->Da E i d<num E i
 h:∀d e,0<=d->d<e->e<=Az E i->Da E i d<Da E i e
 a:∀d,1<=d->d<=Az E i->∃j,j<i/\cls E j=false/\Da E i d=(num E j:Int)/\Da E j (Az E j)=Da E i (d-1)/\Az E j+1=d
def ji{E i}(a:cls E i=false)d:Da E (i+1) d=if d=Az E i+1 then (num E i:Int) else Da E i d:=by
 rw[Da];simp[a]
def kN{E i}(a:cls E i=true)d:Da E (i+1) d=Da E i d:=by
 rw[Da];simp[a]
def qq{E i}(a:cls E i=false):Az E (i+1)=Az E i+1:=by rw[Az];simp[a]
def kO{E i}(a:cls E i=true):Az E (i+1)=Az E i-1:=by rw[Az];simp[a]
def LD{E i}(a:cls E i=true):num E (i+1)=num E i:=by unfold num;rw[ops];simp[a]
def Vd{E i}(h:My E i):uxK E i:=by
 induction i with
 |zero =>
  have n:Az E 0=0:=rfl;refine⟨by simp[Da],λd b l=>oM,λd b l=>?_,λd e n b l=>oM,λd b l=>oM⟩;obtain rfl:d=0:=oM;simp[Da,num,ops]
 |succ i v =>
  have t:=h.h (show i<=i+1 by omega);have k:=v t;have g:=xY t;have x:=xY h;cases m:cls E i with
  |false =>
   have u:=qq m;have c:=ji m;have s:=CL E m;refine⟨?_,λd b l=>?_,λd b l=>?_,λd e n b l=>?_,λd b l=>?_⟩
   .rw[c,Zn oM];exact k.f
   .rw[c];split
    .omega
    exact k.ge d b oM
   .rw[c];split
    .omega
    have:=k.lt d b oM;omega
   .rw[c,c,Zn (show ¬d=_ by omega)];split
    .exact k.lt d n oM
    exact k.h d e n b oM
   by_cases e:d=Az E i+1
   .refine⟨i,oM,m,?_,?_,e.symm⟩
    .rw[c,Zp e]
    rw[c,Zn oM,show d-1=Az E i by omega]
   let⟨j,w,o,p,q,r⟩:=k.a d b oM;refine⟨j,oM,o,?_,?_,r⟩
   .rw[c,Zn e];exact p
   rw[c,Zn oM];exact q
  |true =>
   have u:=kO m;have c:=kN m;have s:=LD m;refine⟨?_,λd b l=>?_,λd b l=>?_,λd e n b l=>?_,λd b l=>?_⟩
   .rw[c];exact k.f
   .rw[c];exact k.ge d b oM
   .rw[c,s];exact k.lt d b oM
   .rw[c,c];exact k.h d e n b oM
   let⟨j,w,o,p,q,r⟩:=k.a d b oM;exact⟨j,oM,o,by rw[c];exact p,by rw[c];exact q,r⟩
def D0{E i j}(h:My E i)(d:i<=j):Gv E i j=0:=by
 induction i with
 |zero=>rfl
 |succ i b =>
  have a:=h.h (show i<=i+1 by omega);rw[Gv,Zn,b a oM];rintro⟨c,e⟩;have k:=(Vd a).lt (Az E i) (xY a) (Ft _);have:=C8 E (show i<=j by omega);omega
def Sy E{n i}(b:i<n)d:Kb E n (n-i) d=if cls E i=true/\Az E i=d then (E i).c else Kb E n (n-(i+1)) d:=by
 obtain⟨k,a⟩:∃k,n-i=k+1:=⟨n-i-1,oM⟩;rw[a,Kb,show n-(k+1)=i by omega,show n-(i+1)=k by omega]
def uty{E n j}(h:Sx E n)(u:j<n)(c:cls E j=false):Gv E n j=Kb E n (n-j) (Az E j+1):=by
 obtain⟨f,B⟩:=h;have x:∀i,j<i->i<=n ->
   (Az E j+1<=Az E i/\Da E i (Az E j+1)=(num E j:Int)/\Gv E i j=0/\Kb E n (n-j) (Az E j+1)=Kb E n (n-i) (Az E j+1)) \/
   ((∀e,1<=e->e<=Az E i->Da E i e≠(num E j:Int))/\Gv E i j=Kb E n (n-j) (Az E j+1)):=by
  intro i;induction i with
  |zero=>intro h;omega
  |succ i w =>
   intro C D;have p:=f.h (show i<=n by omega);have y:=xY p;have A:=xY (f.h (show j<=n by omega));have z:=xY (f.h (show i+1<=n by omega));have k:=Vd p;by_cases e:i=j
   .subst e;refine .inl ⟨by rw[qq c];omega,by rw[ji c,Zp rfl],?_,?_⟩
    .rw[Gv,Zn (by simp[c]),D0 p (zD)]
    rw[Sy E oM,Zn (by simp[c])]
   rcases w oM oM with⟨t,g,r,l⟩|⟨b1,s⟩
   .cases a:cls E i with
    |false =>
     refine .inl ⟨by rw[qq a];omega,by rw[ji a,Zn oM];exact g,by rw[Gv,Zn (by simp[a])];exact r,?_⟩;rw[l,Sy E (show i<n by omega),Zn (by simp[a])]
    |true =>
     have v:=kO a;by_cases m:Az E i=Az E j+1
     .refine .inr ⟨λe d o=>?_,?_⟩
      .rw[kN a];have:=k.h e (Az E j+1) oM oM oM;omega
      rw[Gv,Zp ⟨a,by rw[m];exact g⟩,l,Sy E (show i<n by omega),Zp ⟨a,m⟩]
     refine .inl ⟨oM,by rw[kN a];exact g,?_,?_⟩
     .rw[Gv,Zn];exact r;rintro⟨_,q⟩;have:=k.h (Az E j+1) (Az E i) oM oM oM;omega
     rw[l,Sy E (show i<n by omega),Zn (by simp[m])]
   cases a:cls E i with
   |false =>
    refine .inr ⟨λe d o=>?_,by rw[Gv,Zn (by simp[a])];exact s⟩;rw[qq a]at o;rw[ji a];split
    .have:=LC E c (show j<i by omega);omega
    exact b1 e d oM
   |true =>
    have v:=kO a;refine .inr ⟨λe d o=>?_,?_⟩
    .rw[kN a];exact b1 e d oM
    rw[Gv,Zn];exact s;rintro⟨_,q⟩;exact b1 _ oM (Ft _) q
 rcases x n u zD with⟨t,_⟩|⟨_,b⟩
 .have:=xY (f.h (show j<=n by omega));omega
 exact b
def utz E{n q x}(h:(ops E n)[q]?=some x):q=num E x:=by
 induction n with
 |zero=>simp[ops]at h
 |succ n b =>
  rw[ops]at h;cases a:cls E n with
  |true=>rw[a]at h;exact b (by simpa using h)
  |false =>
   rw[a]at h;simp only[Nh,if_false]at h;by_cases d:q<(ops E n).length
   .rw[Es d]at h;exact b h
   rw[Fb oM]at h;have:q-(ops E n).length=0:=by
    by_cases e:q-(ops E n).length=0
    .exact e
    obtain⟨k,c⟩:∃k,q-(ops E n).length=k+1:=⟨q-(ops E n).length-1,oM⟩;rw[c]at h;simp at h
   rw[this]at h;simp at h;subst h;unfold num;omega
def LF{α:Type}{f a:Nat->List α}(l:List Nat)(h:∀y,y∈l->a y=f y):l.flatMap a=l.flatMap f:=by
 induction l with
 |nil=>rfl
 |cons y l c=>rw[Eu,Eu,h y sM,c (λz b=>h z (by simp[b]))]
def D1{α:Type}(f a:Nat->List α)(v:α):∀(l:List Nat) (k:Nat),(∀x,x∈l->(f x).length=5)->k<l.length->(∀q x,l[q]?=some x->a x=if q=k then (f x).set 3 v else f x) ->
  (l.flatMap f).set (k*5+3) v=l.flatMap a
 |[],k,_,hk,_=>by simp at hk
 |x::l,0,hl,_,h=>by
  have b:=h 0 x rfl;have g:l.flatMap a=l.flatMap f:=by
   have:∀y,y∈l->a y=f y:=λy d=>by
    obtain⟨q,c,rfl⟩:=List.getElem_of_mem d;have:=h (q+1) l[q] (by simp[c]);rw[this,Zn oM]
   exact LF l this
  rw[Eu,Eu,g,b,Zp rfl,List.set_append_left _ _ (by rw[hl x sM];omega)]
 |x::l,k+1,hl,hk,h=>by
  have b:=h 0 x rfl;rw[Zn oM]at b;rw[Eu,Eu,b,Ve _ _ (by rw[hl x sM];omega),hl x sM,show(k+1)*5+3-5=k*5+3 by omega];rw[D1 f a v l k (λy d=>hl y (by simp[d])) (by simpa using hk) (λq y c=>?_)];have:=h (q+1) y (by simpa using c);rw[this];by_cases e:q=k
  .rw[Zp e,Zp oM]
  rw[Zn e,Zn oM]
def un8{α:Type}(f:Nat->List α)(l:List Nat)(h:∀x,x∈l->(f x).length=5):(l.flatMap f).length=l.length*5:=by
 induction l with
 |nil=>rfl
 |cons x l b =>
  rw[Eu,zJ,h x sM,b (λy a=>h y (by simp[a])),Db];omega
def D2{α:Type}(f:Nat->List α):∀(l:List Nat) (i j x:Nat),(∀x,x∈l->(f x).length=5)->l[i]?=some x->j<5->(l.flatMap f)[i*5+j]?=(f x)[j]?
 |[],i,j,x,_,h,_=>by simp at h
 |y::l,0,j,x,hl,h,hj=>by
  simp at h;subst h;rw[Eu,Es (by rw[hl y sM];omega)];simp
 |y::l,i+1,j,x,hl,h,hj=>by
  simp at h;rw[Eu,Fb (by rw[hl y sM];omega),hl y sM,show(i+1)*5+j-5=i*5+j by omega];exact D2 f l i j x (λz a=>hl z (by simp[a])) h hj
def Qr(E:Nat->Cm)(n j:Nat):Ka:=⟨(E j).e,(E j).f,(E j).c,Kb E n (n-j) (Az E j+1),Da E j (Az E j)⟩
def Qs(E:Nat->Cm)(i j:Nat):Ka:=⟨(E j).e,(E j).f,(E j).c,Gv E i j,Da E j (Az E j)⟩
def Fi(d:Ka):List Value:=[Iv d.e,Iv d.f,Iv d.a,Iv d.to,Iv d.b]
def CN{d}:(Fi d).length=5:=rfl
def It(E:Nat->Cm)(n i:Nat):List Value:=(ops E i).flatMap (λj=>Fi (Qr E n j))
def xW(E:Nat->Cm)(i:Nat):List Value:=(ops E i).flatMap (λj=>Fi (Qs E i j))
def un9{E n i}(h:cls E i=false):It E n (i+1)=It E n i++Fi (Qr E n i):=by
 unfold It;rw[ops,h];simp
def uls{E n i}(h:cls E i=true):It E n (i+1)=It E n i:=by
 unfold It;rw[ops,h];simp
def uoa{E i}(b:My E i)(h:cls E i=false):xW E (i+1)=xW E i++Fi ⟨(E i).e,(E i).f,(E i).c,0,Da E i (Az E i)⟩:=by
 unfold xW;have e:∀j,Gv E (i+1) j=Gv E i j:=λj=>by rw[Gv,Zn (by simp[h])]
 have a:Qs E (i+1) i=⟨(E i).e,(E i).f,(E i).c,0,Da E i (Az E i)⟩:=by unfold Qs;rw[e,D0 b (zD)]
 rw[ops,h];simp only[Nh,if_false,List.flatMap_append,Eu,List.flatMap_nil,Dl];rw[a];congr 1;refine LF _ (λj _=>?_);unfold Qs;rw[e]
def ult{E}{i k:Nat}(h:cls E i=true)(b:Da E i (Az E i)=(k:Int))(d:k<num E i):xW E (i+1)=(xW E i).set (k*5+3) (Iv (E i).c):=by
 unfold xW;rw[ops,h];simp only[if_true];refine(D1 _ _ _ _ k (λx _=>CN) d (λq x g=>?_)).symm;have f:=utz E g;by_cases e:q=k
 .have a:Gv E (i+1) x=(E i).c:=by rw[Gv,Zp ⟨h,by rw[b,<-e,f]⟩]
  rw[Zp e];unfold Qs;rw[a];rfl
 have a:Gv E (i+1) x=Gv E i x:=by rw[Gv,Zn (λj=>e (by have:=j.2;rw[b]at this;omega))]
 rw[Zn e];unfold Qs;rw[a]
def urd{E n}(h:Sx E n):xW E n=It E n n:=by
 unfold xW It;refine LF _ (λj c=>?_);let⟨a,b⟩:=C9 E c;unfold Qs Qr;rw[uty h a b]
def D3 E i:(xW E i).length=num E i*5:=un8 _ _ (λ_ _=>CN)
end Go.Proofs.YtmlblamikgkdcaaGreat
