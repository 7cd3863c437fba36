import Derived.Test.YtoihadcablknpaaGreatDoorT04
set_option linter.unusedVariables false
set_option linter.unusedSimpArgs false
set_option linter.defProp false
set_option maxHeartbeats 40000000
set_option maxRecDepth 100000
namespace Go.Proofs.YtoihadcablknpaaGreatDoor
open Go.RowKit
open Go.Proofs.Tryz
def Lk(L:List Nat):List Value:=L.map (λ(x:Nat)=>Iv (x:Int))
def Wy L:(Lk L).length=L.length:=by simp[Lk]
def EJ(L:List Nat)(x:Nat):Lk (L++[x])=Lk L++[Iv (x:Int)]:=by simp[Lk]
structure WL(Q:Np)(w:Wl)(wb:Nat)(L:List Nat):Prop where
 k:∃v,w.cell? (Ad wb 0)=some v/\wC Q w v 1 L.length (Lk L)
 s:w.frozen? (Ad wb 0)=false
def WL.lt{Q w a L}(h:WL Q w a L):a<w.heap.size:=by
 obtain⟨v,h,_⟩:=h.k;exact ud h
def WL.on{Q w w' c L}(h:WL Q w c L)(k:wQ (λb=>Q b\/b=c) w w'):WL Q w' c L:=by
 obtain⟨v,d,e⟩:=h.k;refine⟨⟨v,(k.p (.inr rfl)).trans d,e.on (λb f=>k b (.inl f))⟩,?_⟩;rw[Ec (a:=(Ad c 0)) (k c (.inr rfl))];exact h.s
def ury{w g u}(b:w.cell? (Ad g 0)=some u)(c:u.oneCell'=true):Src prog 1 23 (Sl (Sm g 0) 1 1) 1 [u] w:=by
 refine Gj (P:=prog) w underlying23 (Ad g 0) 1 1 [u] rfl (λj d a=>?_) (λd a=>?_)
 ·match j,a with
  |0,a=>simp at a;subst a;simpa[Addr.add] using b
  |j+1,a=>simp at a
 simp at a;subst a;exact c
def uph(m:Nat)(h:m<=1048576):IntKind.i64.wrap (m:Int)=(m:Int):=by
 simp[IntKind.wrap,IntKind.bits,IntKind.signed];omega
structure uvu(Q:Np)(wb x:Nat)(L:List Nat)(w:Wl)(e:Ending)(w':Wl):Prop where
 ret:∃v,e=Rt v
 list:WL (λb=>Q b\/w.heap.size<=b) w' wb (L++[x])
 a:wS (λb=>Q b\/b=wb) w w'
def TV{Q}(i x:Nat)L{w}(A:WL Q w i L)(H:¬Q i)(Z:L.length<=1048576) :
  Cs 168 #[.pointer (Sm i 0),Iv (x:Int)] w (uvu Q i x L w):=by
 obtain⟨v,I,G⟩:=A.k;have T:=A.s;have Y:i<w.heap.size:=ud I;have J:Hid (wC Q w v 1 L.length (Lk L)):=G;clear G A;have P:Hid (wC Q (w.alloc (Oc #[Iv x] 3)) v 1 L.length (Lk L)):=by
  rcases J.o with h|⟨g,cap,l,c,p,E,N,F⟩
  ·exact .inl h
  by_cases R:cap=0
  ·subst R;refine .inr ⟨g,0,l,c,p,E,λj t=>aB t (by rw[p];omega),λj t=>oM⟩
  have S:g<w.heap.size:=by
   have:=(F 0 oM).1;obtain⟨u,X⟩:=Dt.1 this;exact ud X
  have e:=Hg w (Oc #[Iv x] 3) g S;exact .inr ⟨g,cap,l,c,p,E,λj t=>by rw[zI (a:=(Ad g j)) e];exact N j t,F.q e⟩
 have O:Hid (i<(w.alloc (Oc #[Iv x] 3)).heap.size):=by show _<_;simp;omega
 go_enter func168,ntmps168;go_wp2_with (at_builtin;refine Qo rfl _ _ 23 23 rfl rfl rfl jz P (ury (u:=Iv x) (cN w.heap.size rfl rfl) rfl) oM (λ_=>Nat.one_pos) ?_;intro v' W D B V;obtain⟨y,z,rfl⟩:=uq D;have C:=(B.d i O H).trans (Hg w (Oc #[Iv x] 3) i Y);have hv':W.cell? (Ad i 0)=some v:=(zI (a:=(Ad i 0)) C).trans I;have hs':W.frozen? (Ad i 0)=false:=(Ec (a:=(Ad i 0)) C).trans T;have HO':Hid (wC (λb=>Q b\/(w.alloc (Oc #[Iv x] 3)).heap.size<=b) W (Sl y (L.length+1) z) 1 (L.length+1) (Lk L++[Iv x])):=D;have m:Hid (wS (λb=>Q b) (w.alloc (Oc #[Iv x] 3)) W):=B;clear D B V C);go_end0;have U:=m.h;rw[zV]at U;refine⟨⟨_,rfl⟩,⟨⟨Sl y (L.length+1) z,uu hv',?_⟩,?_⟩,?_⟩
 ·rw[EJ,wK];have:wC (λb=>Q b\/w.heap.size<=b) W (Sl y (L.length+1) z) 1 (L.length+1) (Lk L++[Iv x]):=by
   rcases HO'.o with h|⟨g,cap,l,c,p⟩
   ·exact .inl h
   refine .inr ⟨g,cap,l,?_,p⟩;rcases c with c|c
   ·exact .inl c
   rw[zV]at c;exact .inr oM
  exact this.on (λb r=>zJ b (λe=>by
   simp only at e;subst e;rcases r with r|r
   ·exact H r
   omega))
 ·rw[Ff];exact hs'
 refine⟨m.os,m.g,m.f,by simp[World.setCell];omega,λb l c=>?_,λb o l=>?_,λb o l c=>?_⟩
 ·rw[zJ b (λe=>c (.inr e)),m.o.d b (by rw[zV];omega) (λq=>c (.inl q)),Hj l]
 ·rw[Ff,m.o.n b o (by rw[zV];omega)];exact Ec (a:=(Ad b o)) (Hj l)
 rw[Ff];rw[uj]at c;by_cases e:b=w.heap.size
 ·subst e;rw[m.o.n _ o (by rw[zV];omega)];exact qk w 3 w.heap.size o wF sM
 exact m.a b o (by rw[zV];omega) c
def ujH(L:List Nat):L = []\/∃a x,L=a++[x]:=by
 rcases List.eq_nil_or_concat L with h|⟨a,x,h⟩
 ·exact .inl h
 exact .inr ⟨a,x,by simpa using h⟩
def tkN Q f w(b:WL Q w f []) :
  Cs 169 #[.pointer (Sm f 0)] w λe w'=>e=Rt (.tuple #[Iv 0,Bf])/\w'=w:=by
 obtain⟨v,g,d⟩:=b.k;obtain⟨a,c,rfl⟩:=uq d;clear d b;go_enter func169,ntmps169;go_wp2;refine wL (by simp[results,f169,go_sem];rfl) rfl ?_;exact⟨rfl,rfl⟩
structure uv2(Q:Np)(wb x:Nat)(L:List Nat)(w:Wl)(e:Ending)(w':Wl):Prop where
 ret:e=Rt (.tuple #[Iv (x:Int),Bt])
 list:WL Q w' wb L
 a:wS (λb=>b=wb) w w'
def tkS Q c x L w(i:WL Q w c (L++[x]))(t:¬Q c)(z:L.length<=1048576) :
  Cs 169 #[.pointer (Sm c 0)] w (uv2 Q c x L w):=by
 obtain⟨v,n,A⟩:=i.k;have B:=i.s;rcases A with⟨_,h,_⟩|⟨g,cap,rfl,a,d,q,f,r⟩
 ·simp at h
 rw[wK]at n d q;simp only[zQ,Ef,zL]at n d q;have C:w.cell? (Ad g L.length)=some (Iv x):=by
  rw[f L.length (by rw[d];omega),EJ,Di (by rw[Wy];exact wF),Wy];simp
 have u:=ua f;have y:=ua r;have D:((L.length+1:Nat):Int)-1=(L.length:Int):=oM;have E:¬cap=0:=oM;have F:L.length<=cap:=oM;have G:¬((L.length:Int)<0):=oM;have H:=uph L.length z;clear i f r d;go_enter func169,ntmps169;go_wp2;refine wL (by simp[results,f169,go_sem];rfl) rfl ?_;refine⟨rfl,⟨⟨_,uu n,.inr ⟨g,cap,rfl,a,by rw[Wy,Mb],oM,λj l=>?_,λj l=>?_⟩⟩,?_⟩,?_⟩
 ·have m:g≠c:=λe=>t (e▸a)
  rw[yH (Ne.symm m),u.o j (by rw[Wy]at *;simp;omega),EJ,Cr l]
 ·have m:g≠c:=λe=>t (e▸a)
  rw[yH (Ne.symm m),Ff];exact y j l
 ·rw[Ff];exact B
 refine⟨rfl,rfl,rfl,by rw[uj];exact wF,λb p a=>zJ b (λe=>a e),λb o p=>by rw[Ff],λb o p a=>?_⟩;rw[uj]at a;omega
open M (OpD uh Gr uw)
def rg(M:Nat->Bool):Nat->List Int
 |0=>[]
 |b+1=>rg M b++((if M b&&(b==0||!M (b-1)) then [(b:Int)] else [])++(if M b&&(b==255||!M (b+1)) then [(b:Int)] else []))
def QU M b:rg M (b+1)=rg M b++((if M b&&(b==0||!M (b-1)) then [(b:Int)] else [])++(if M b&&(b==255||!M (b+1)) then [(b:Int)] else [])):=rfl
def CT M b:(rg M b).length<=2*b:=by
 induction b with
 |zero=>exact wF
 |succ b e =>
  rw[rg,wK,wK];have:∀(c:Bool),(if c then [(b:Int)] else []).length<=1:=λc=>by cases c<;>simp
  have a:=this (M b&&(b==0||!M (b-1)));have d:=this (M b&&(b==255||!M (b+1)));omega
def vB(a:LI):List Value:=a.map (λz=>Iv z)
def zO(w0 w:Wl)(v:Vl)(l:LI):Prop:=∃P,wC P w v 1 l.length (vB l)/\(∀b,P b->w0.heap.size<=b/\b<w.heap.size)/\Bw w0 w
def zO.u{w0 w v l}(h:zO w0 w v l):Bw w0 w:=let ⟨_,_,_,h⟩:=h;h
def zO.nil{w0 w}(h:Bw w0 w):zO w0 w nS []:=⟨λ_=>False,.inl ⟨rfl,rfl,rfl⟩,λb q=>q.elim,h⟩
def zO.a{w0 w v l}(h:zO w0 w v l):∃a c,v=Sl a l.length c:=by
 obtain⟨P,h,_⟩:=h;exact uq h
def uoS{w0 w1 v l}z ty(h:zO w0 w1 v l)(C:l.length<=4096) :
  ∃k w',(Builtin.append_ #[23,23] ty #[v,Sl (Sm w1.heap.size 0) 1 1]).run prog (w1.alloc (Oc #[Iv z] 3))=.ok k w'/\zO w0 w' k (l++[z]):=by
 obtain⟨P,w,m,c⟩:=h;have b1:=uk w1 (Oc #[Iv z] 3);have A:Src prog 1 23 (Sl (Sm w1.heap.size 0) 1 1) 1 [Iv z] (w1.alloc (Oc #[Iv z] 3)):=by
  refine Gj (P:=prog) _ underlying23 (Ad w1.heap.size 0) 1 1 [Iv z] rfl (λj u a=>?_) (λu a=>?_)
  ·match j,a with
   |0,a=>simpa[Addr.add] using (cN w1.heap.size rfl a:(w1.alloc (.cells #[Iv z] 3)).cell? (Ad w1.heap.size 0)=some u)
   |j+1,a=>simp at a
  simp at a;subst a;rfl
 obtain⟨k,w',y,B,i,F⟩:=xd ty jz (w.on (λb c=>b1.block b (m b c).2)) A oM (λ_=>Nat.one_pos);refine⟨k,w',y,λb=>(P b\/(w1.alloc (Oc #[Iv z] 3)).heap.size<=b)/\b<w'.heap.size,?_,?_,?_⟩
 ·have e:vB (l++[z])=vB l++[Iv z]:=by simp[vB]
  rw[e,wK,Bs];rcases B with q|⟨g,cap,e,x,p,r,s,n⟩
  ·exact .inl q
  refine .inr ⟨g,cap,e,⟨x,?_⟩,p,r,s,n⟩;obtain⟨u,a⟩:=Dt.1 (n 0 oM).1;exact ud a
 ·rintro b ⟨q|q,o⟩
  ·exact⟨(m b q).1,o⟩
  have:=c.size;have:=b1.size;exact⟨oM,o⟩
 have D:=c.size;have E:=b1.size;exact⟨i.os.trans (b1.os.trans c.os),i.g.trans (b1.tape.trans c.tape),i.f.trans (b1.output.trans c.output),by have:=i.h;omega,λb t=>(i.d b oM (λq=>oH ((m b q).1))).trans ((b1.block b oM).trans (c.block b t))⟩
def QV{ops:Array Oper}{rest:List Oper}{o:Oper}{a:Act}{e:Exit->Act->World->Prop}(i:o.guard=none)(s x:Operand)(m:o.op=.call { callee:=.builtin .append,args:=#[s,x],argTypes:=#[23,23] })
  {w0 w1:Wl} {v:Vl} {l:LI} {z:Int} (p:a.eval s=v) (q:a.eval x=Sl (Sm w1.heap.size 0) 1 1) (h:zO w0 w1 v l) (j:l.length<=4096)
  (k:∀w' l' d b c,Hid (l'=l++[z])->Hid (d=l'.length)->Hid (zO w0 w' (Sl b d c) l')->wpList prog ops e rest (a.put o.dst (Sl b d c)) w'):wpList prog ops e (o::rest) a (w1.alloc (Oc #[Iv z] 3)):=by
 refine wpList_plain i λK g=>?_
 obtain⟨r,w',n,f⟩:=uoS z o.type h j;obtain⟨b,c,rfl⟩:=f.a;unfold Oper.wp execOp;simp only[m,resolve,invoke,builtin,Fa,Gc,Gk,Hs,Er,Gl,p,q,n];exact g _ _ (k w' (l++[z]) _ b c rfl rfl f)
def QW(w:Wl)(a:Oa)(M:Nat->Bool):Prop:=∃b,a=some (Ad b 0)/\∀i,i<256->w.cell? (Ad b i)=some (.bool (M i))
def Ps(l:LI)(w:Wl)(e:Ending)(w':Wl):Prop:=∃a c,e=Rt (Sl a l.length c)/\zO w w' (Sl a l.length c) l
def rgI(w:Wl)(M:Nat->Bool)(b a:Vl)(wr:Wl):Prop:=∃k:Nat,k<=256/\a=Iv (k:Int)/\zO w wr b (rg M k)
def QX a M w(J:QW w a M):Cs 122 #[Sl a 256 256] w (Ps (rg M 256) w):=by
 obtain⟨b,rfl,x⟩:=J;have E:=ua x;have lb:=ud (x 0 oM);clear x;go_enter func122,ntmps122;go_wp2;go_loopw [3,4] (λB z wr=>rgI w M B z wr) (λB z _=>256-(intOf z).toNat)
 ·exact⟨0,oM,rfl,zO.nil (wI _)⟩
 obtain⟨k,hk,rfl,q⟩:=hrel;obtain⟨R,S,rfl⟩:=q.a;have P:=CT M k;obtain⟨on,y⟩:=nm ((rg M k).length);rw[y]at q P ⊢;have d:=ua q;have p:=ua y;have e:Hid (∀W i,Bw w W->i<256->W.cell? (Ad b i)=some (.bool (M i))):=λW i N O=>ue (E.o i O) N
 clear q y;by_cases A:k<256
 ·have hlt':(k:Int)<256:=oM;have ac:=wX lb d.o.u.size;have s:=e.o wr k d.o.u A;have g:=ua λW h=>e.o W k h A
  have c:=QU M k;rcases(show k=0\/k=255\/k≠0/\k≠255 by omega) with rfl|rfl|⟨H,I⟩;have t:=e.o wr 1 d.o.u oM;have f:=ua λW h=>e.o W 1 h oM
  simp at c;generalize M 0=l at s g c;generalize M 1=m at t f c;cases l<;>cases m
  rotate_left 4
  have v:=e.o wr 254 d.o.u oM;have f:=g;simp at c;generalize M 255=l at s g f c;generalize M 254=m at v c;cases l<;>cases m
  rotate_left 4
  obtain⟨j,rfl⟩:∃j,k=j+1:=⟨k-1,oM⟩;have e0:((j:Int)+1==0)=false:=sO;have e5:((j:Int)+1==255)=false:=sO;have aa:(j:Int)+1+1<256:=oM;have v:=e.o wr j d.o.u oM;have t:=e.o wr (j+1+1) d.o.u oM;have f:=ua λW h=>e.o W (j+1+1) h oM
  simp[show j≠254 by omega]at c;clear H I;generalize M (j+1)=l at s g c;generalize M j=m at v c;generalize M (j+1+1)=Q at t f c;cases l<;>cases m<;>cases Q
  all_goals
   simp at c;have F:=ua c;clear c;go_wp2_with (first|(at_builtin;refine QV rfl _ _ rfl rfl rfl d.o (by rw[p.o];omega) ?_;intro W L n V Y r T o;have G:=g.o W o.o.u;have dn:=f.o W o.o.u;have ab:=ud G)|(at_builtin;refine QV rfl _ _ rfl rfl rfl o.o (by rw[r.o,wK,p.o];simp;omega) ?_;intro W2 L2 n2 X Z C U D));go_roundw
   ·first|refine⟨0+1,oM,by go_num,?_⟩|refine⟨255+1,oM,by go_num,?_⟩|refine⟨j+1+1,oM,by go_num,?_⟩
    rw[F.o];first|exact d.o|(have h:=o.o;rw[r.o]at h;simpa using h)|(have h:=D.o;rw[C.o,r.o]at h;simpa using h)
   first|(simp[intOf];done)|(simp[intOf];omega)
 obtain rfl:k=256:=oM;go_wp2;go_ret;exact⟨R,S,by rw[p.o];rfl,by rw[p.o];exact d.o⟩
def Pu(M:Nat->Bool)(m:Nat)(j:Nat):Vl:=if j<m then .bool (M j) else Bf
def ujm{t:TypeId}{w:Wl}{b n m:Nat}{M:Nat->Bool}(h:w.rowIs b t n (Pu M m)):(w.setCell (Ad b m) (.bool (M m))).rowIs b t n (Pu M (m+1)):=by
 refine(h.set m (.bool (M m))).congr λi _=>?_
 unfold Pu;by_cases e:i=m
 ·subst e;simp
 rw[Zn e];by_cases a:i<m
 ·rw[Zp a,Zp oM]
 rw[Zn a,Zn oM]
def Vz:(prog.info? 4).map (λi=>(i.zero,i.size,i.bytes))=some (some Bf,1,1):=rR
def byI(w:Wl)(M:Nat->Bool)(a:Vl)(wr:Wl):Prop :=
 ∃m:Nat,m<=256/\a=Iv (m:Int)/\wr.rowIs w.heap.size 4 256 (Pu M m)/\Bw w wr/\wr.heap.size=w.heap.size+1
def QY{Q} Q' a l n f c x S h{w}(y:wB Q .i64 w a n S)(z:wB Q' .i64 w l f h)(T:n<=1048576)(U:f<=1048576) :
  Cs 94 #[Sl a n c,Sl l f x] w (Ps (rg (λb=>ve n S b||ve f h b) 256) w):=by
 have D:=run_make_row' (P:=prog) 81 4 Bf 1 underlying81 Vz rfl .i64 .i64 256 oM oM;simp only[show((256:Nat):Int)=256 from rfl]at D;have G:=ua y;have H:=ua z;obtain⟨M,o⟩:∃M:Nat->Bool,M=λb:Nat=>ve n S b||ve f h b:=⟨_,rfl⟩
 have t:=ua o;rw[<-o];clear y z o;go_enter func94,ntmps94;go_wp2;go_loopw [6] (λs wr=>byI w M s wr) (λs _=>256-(intOf s).toNat)
 ·exact⟨0,oM,rfl,(Ja w _ 256 4).congr λi _=>by simp[Pu],(wI w).alloc wF _,sM⟩
 obtain⟨m,hm,rfl,g,j,r⟩:=hrel;clear D;by_cases R:m<256
 ·have hlt':(m:Int)<256:=oM;have Y:=g.cell R;have Z:=g.frozen m;have E:=ujm g;have u:=ua E;have d:=ua j;have v:=ua r;clear g E j r;go_wp2_with fail;refine(CW Q a n c S m (G.q d) T).mono ?_;rintro e W ⟨rfl,O⟩;subst W;cases k:ve n S m with
  |true =>
   have p:Hid (M m=true):=(by show M m=true;rw[t.o];simp[k]);clear k;go_wp2;go_roundw
   ·exact⟨m+1,oM,by go_num,p.o▸u.o,uy d wF,by rw[uj];exact v⟩
   simp[intOf];omega
  |false =>
   have p:Hid (M m=ve f h m):=(by show M m=_;rw[t.o];simp[k]);clear k;go_wp2_with fail;refine(CW Q' l f x h m (H.q d) U).mono ?_;rintro e W ⟨rfl,O⟩;subst W;rw[<-p.o];go_wp2;go_roundw
   ·exact⟨m+1,oM,by go_num,u,uy d wF,by rw[uj];exact v⟩
   simp[intOf];omega
 obtain rfl:m=256:=oM;have d:=ua j;have I:Hid (QW wr (Sm w.heap.size 0) M):=⟨w.heap.size,rfl,λi C=>by rw[g.cell C];simp[Pu,C]⟩;clear g j r;go_wp2_with fail;refine(QX _ M _ I).mono ?_;rintro e W ⟨L,N,rfl,A⟩;have J:=ua A;clear A;go_wp2;go_ret;obtain⟨P,V,F,X⟩:=J;have:=d.size;exact⟨L,N,rfl,P,V,λb B=>⟨by have:=F b B;omega,(F b B).2⟩,uf d X⟩
open M (EX ins)
structure IC where
 d:uw
 a:Option Addr
 c:Nat
def Il(x:IC):List Value:=[Iv x.d.e,Iv x.d.f,Iv x.d.to,Sl x.a x.d.sl x.c]
def ic(k a t:Int):IC:=⟨ins k a t,none,0⟩
def uY:List IC->List Value
 |[]=>[]
 |x::l=>Il x++uY l
def Qw x:(Il x).length=4:=rfl
def FR l:(uY l).length=l.length*4:=by
 induction l with
 |nil=>rfl
 |cons x l a=>rw[uY,wK,a,Qw];simp only[zQ];omega
def XI l m:uY (l++m)=uY l++uY m:=by
 induction l with
 |nil=>rfl
 |cons x l a=>rw[Cb,uY,uY,a,zU]
def Xl:∀(l:List IC) (i j:Nat) (x:IC),l[i]?=some x->j<4->(uY l)[i*4+j]?=(Il x)[j]?
 |[],i,j,x,h,_=>by simp at h
 |y::l,0,j,x,h,hj=>by
  simp at h;subst h;rw[uY,Cr (by rw[Qw];omega)];simp
 |y::l,i+1,j,x,h,hj=>by
  simp at h;rw[uY,Di (by rw[Qw];omega),Qw,show(i+1)*4+j-4=i*4+j by omega];exact Xl l i j x h hj
def zW(S:Np)(w:Wl)(l:List IC):Prop:=∀x,x∈l->wB S .i64 w x.a x.d.sl x.d.set
def zW.on{S w w' l}(h:zW S w l)(k:wQ S w w'):zW S w' l:=λx a=>(h x a).on k
def zW.q{S w w' l}(h:zW S w l)(k:Bw w w'):zW S w' l:=λx a=>(h x a).q k
def zW.g{S a w l}(h:zW S w l)(k:∀b,S b->a b):zW a w l:=λx c=>(h x c).g k
def zW.app{S w l m}(h:zW S w l)(k:zW S w m):zW S w (l++m):=λx a=>(Bh.1 a).elim (h x) (k x)
def XJ:vA 137 202 4 48:=⟨underlying137,⟨_,uq5,rfl⟩,oM⟩
def FT{Q w w' v a n cs}(h:wC Q w v a n cs)(d:∀b,Q b->b<w.heap.size)(k:Bw w w'):wC Q w' v a n cs :=
 h.on (λb c=>k.block b (d b c))
def Tf{w x j l news t k e}ty(d:vA t e j l)(b:Src prog j k x 0 news w) :
  (Builtin.append_ #[t,k] ty #[nS,x]).run prog w=.ok nS w:=by
 obtain⟨z,m,s⟩:=d.a;obtain⟨i,n,h⟩:=Gu.1 m;simp only[Kt]at h;obtain⟨q,o,r⟩:=h;have f:=b.cells;rw[<-o]at f;rcases b.kind with⟨p,g⟩|g<;>simp[Builtin.append_,run_underlying d.c,run_underlying g,sizeOf,typeInfo,n,b.len,f]
def uQ(k:IntKind)(S:Nat->Int)(n:Nat):List Value:=(List.range n).map λi=>.int k (S i)
def jf k S n:(uQ k S n).length=n:=by simp[uQ]
def FJ{k S n i}(h:i<n):(uQ k S n)[i]?=some (.int k (S i)):=by simp[uQ,h]
def VY k S n:∀u∈uQ k S n,u.oneCell'=true:=by
 intro u a;obtain⟨i,_,rfl⟩:=Dc.1 a;rfl
def wB.b{Q k w x n c S g e}(i:prog.underlying g=some (.slice e))(h:wB Q k w (some x) n S):Src prog 1 g (Sl (some x) n c) n (uQ k S n) w:=by
 refine Gj (P:=prog) w i x n c (uQ k S n) (by rw[jf,Mb]) (λj u d=>?_) (VY k S n);have f:j<n:=by have:=(zT.1 d).1;rwa [jf]at this
 rw[FJ f]at d;cases d;rcases h with a|⟨b,off,e,_,h⟩
 ·omega
 cases e;have e':((Ad b off):Addr).add j=(Ad b (off+j)):=by
  by_cases a:j=0
  ·subst a;simp[Addr.add]
  simp[Addr.add,a]
 rw[e'];exact h j f
def wC.b{Q k w v n S}(h:wC Q w v 1 n (uQ k S n)):∃a c,v=Sl a n c/\wB Q k w a n S:=by
 rcases h with⟨rfl,rfl,_⟩|⟨g,cap,rfl,f,j,_,e,_⟩
 ·exact⟨none,0,rfl,.inl rfl⟩
 refine⟨_,_,rfl,.inr ⟨g,0,rfl,f,λi d=>?_⟩⟩;rw[zL,e i (by rw[jf];exact d),FJ d]
def wS.below{Q w0 w w'}(h:wS Q w w')(a:Bw w0 w)(e:∀b,b<w0.heap.size->¬Q b):Bw w0 w' :=
 ⟨h.os.trans a.os,h.g.trans a.tape,h.f.trans a.output,wN a.size h.h,λb c=>(h.d b (wX c a.size) (e b c)).trans (a.block b c)⟩
def VZ w g c:wC (λb=>b=g) w (Sl (Sm g 0) 0 0) c 0 [] :=
 .inr ⟨g,0,rfl,rfl,sM,wF,λj a=>aB a Ct,λj a=>by simp at a⟩
def WA{x n c m}(h:Sl (some x) n c=nS):0<m:=by injection h with h;cases h
def WB{k t w W j n S}(h:wC (λb=>b=w.heap.size\/(w.alloc (Oc #[] t)).heap.size<=b) W j 1 (0+n) ([]++uQ k S n))(f:wS (λb=>b=w.heap.size) (w.alloc (Oc #[] t)) W)(o:W.heap.size<=(w.alloc (Oc #[] t)).heap.size+1) :
  GP (λw' a=>wB (wM w w') k w' a n S) n w (Rt j) W:=by
 rw[zL,Dl]at h;have i:=f.below (wG w) (λb i e=>oM);simp only[zV]at h o;have p:=f.h;simp only[zV]at p;refine⟨?_,i,(qk w t).a f⟩;obtain⟨a,c,e,d⟩:=h.b;by_cases g:n=0
 ·exact⟨a,c,by rw[e],.inl g⟩
 rcases d with m|⟨b,off,l,q,d⟩
 ·exact aB m g
 exact⟨a,c,by rw[e],.inr ⟨b,off,l,⟨oM,ud (d 0 oM)⟩,d⟩⟩
def WC Q a n c S w(g:wB Q .i64 w a n S)(s:n<=1048576) :
  Cs 172 #[Sl a n c] w (GP (λw' a=>wB (wM w w') .i64 w' a n S) n w):=by
 have t:∀(w:Wl) (a:Oa) (n c f d:Nat),(binOp .eql 23 (Sl a n c) (Sl none f d)).run prog w=.ok (.bool a.isNone) w:=λw a n c f d=>Lib.run_eql_slice_nil w _ _ a n c f d underlying23
 cases a with
 |none =>
  have r:n=0:=by
   rcases g with h|⟨_,_,e,_⟩
   ·exact h
   cases e
  subst r;go_enter func172,ntmps172;go_wp2;go_ret;exact⟨⟨none,0,rfl,.inl rfl⟩,wI _,Bj.e _⟩
 |some x =>
  have o:=ua g;go_enter func172,ntmps172;go_wp2_with (at_builtin;refine Qo rfl _ _ 23 23 rfl rfl rfl jz (VZ _ w.heap.size 1) (wB.b underlying23 (o.q (wG w))) oM WA ?_;intro u W j i k;have m:Hid _:=j;have l:Hid _:=i;have p:Hid _:=k;clear j i k);go_ret;exact WB m l p
structure Bo where
 e:Int
 f:Int
 a:Int
 to:Int
 b:Int
def cls(E:Nat->Au)(i:Nat):Bool:=(E i).e==2
def zE(E:Nat->Au):Nat->Int
 |0=>0
 |i+1=>if cls E i then zE E i-1 else zE E i+1
def Kc(E:Nat->Au)(i:Nat):Int:=if cls E i then zE E i else zE E i+1
structure TL(E:Nat->Au)(i:Nat):Prop where
 lo:0<=(E i).e
 hi:(E i).e<=2
 c:0<=(E i).c
 k:0<i->(E (i-1)).c<=(E i).c
 a:0<=zE E (i+1)
def Lj(E:Nat->Au)(i:Nat):Prop:=∀j,j<i->TL E j
def Whole(E:Nat->Au)(n:Nat):Prop:=Lj E n/\zE E n=0
def ops(E:Nat->Au):Nat->List Nat
 |0=>[]
 |i+1=>if cls E i then ops E i else ops E i++[i]
def num(E:Nat->Au)(i:Nat):Nat:=(ops E i).length
def Bi(E:Nat->Au):Nat->Int->Int
 |0,d=>if d=0 then -1 else 0
 |i+1,d=>if cls E i=false/\d=zE E i+1 then (num E i:Int) else Bi E i d
def Jm(E:Nat->Au)(n:Nat):Nat->Int->Int
 |0,_=>0
 |k+1,d=>if cls E (n-(k+1))=true/\zE E (n-(k+1))=d then (E (n-(k+1))).c else Jm E n k d
def Fs(E:Nat->Au):Nat->Nat->Int
 |0,_=>0
 |i+1,j=>if cls E i=true/\Bi E i (zE E i)=(num E j:Int) then (E i).c else Fs E i j
def Wv E i:zE E i<=i:=by
 induction i with
 |zero=>simp[zE]
 |succ i a=>rw[zE];split<;>omega
def xE{E i}(h:Lj E i):0<=zE E i:=by
 cases i with
 |zero=>simp[zE]
 |succ i=>exact(h i oM).a
def Lj.g{E i j}(h:Lj E i)(a:j<=i):Lj E j:=λk b=>h k oM
def TM E{i j}(h:i<=j):num E i<=num E j:=by
 induction j with
 |zero =>
   obtain rfl:i=0:=oM;exact wF
 |succ j a =>
  by_cases e:i=j+1
  ·subst e;exact wF
  have:=a oM;have b:num E j<=num E (j+1):=by
   unfold num;rw[ops];split<;>simp
  omega
def Ww E{i}(h:cls E i=false):num E (i+1)=num E i+1:=by unfold num;rw[ops,h];simp
def EB E{i j}(h:cls E i=false)(c:i<j):num E i<num E j:=by
 have a:=Ww E h;have b:=TM E (show i+1<=j by omega);omega
def Ss E i:num E i<=i:=by
 induction i with
 |zero=>exact wF
 |succ i a =>
  unfold num at *;rw[ops];cases cls E i<;>simp<;>omega
def ED E{n j}(h:j∈ops E n):j<n/\cls E j=false:=by
 induction n with
 |zero=>simp[ops]at h
 |succ n b =>
  rw[ops]at h;cases a:cls E n with
  |true=>rw[a]at h;simp at h;have:=b h;exact⟨oM,this.2⟩
  |false =>
   rw[a]at h;simp at h;rcases h with h|rfl
   ·have:=b h;exact⟨oM,this.2⟩
   exact⟨oM,a⟩
def utX E{j}(b:cls E j=false):∀{n:Nat},j<n->(ops E n)[num E j]?=some j:=by
 intro n;induction n with
 |zero=>intro h;omega
 |succ n c =>
  intro h;by_cases e:j=n
  ·subst e;rw[ops,b];simp[num]
  have a:=c oM;rw[ops];cases d:cls E n with
  |true=>simpa using a
  |false =>
   simp only[Kr,if_false];rw[Cr (EB E b oM)];exact a
structure uvp(E:Nat->Au)(i:Nat):Prop where
 f:Bi E i 0 = -1
 ge:∀d,1<=d->d<=zE E i->0<=Bi E i d
 lt:∀d,0<=d->d<=zE E i->Bi E i d<num E i
 l:∀d e,0<=d->d<e->e<=zE E i->Bi E i d<Bi E i e
 a:∀d,1<=d->d<=zE E i->∃j,j<i/\cls E j=false/\Bi E i d=(num E j:Int)/\Bi E j (zE E j)=Bi E i (d-1)/\zE E j+1=d
def kJ{E i}(a:cls E i=false)d:Bi E (i+1) d=if d=zE E i+1 then (num E i:Int) else Bi E i d:=by
 rw[Bi];simp[a]
def xX{E i}(a:cls E i=true)d:Bi E (i+1) d=Bi E i d:=by
 rw[Bi];simp[a]
def jx{E i}(a:cls E i=false):zE E (i+1)=zE E i+1:=by rw[zE];simp[a]
def xY{E i}(a:cls E i=true):zE E (i+1)=zE E i-1:=by rw[zE];simp[a]
def EE{E i}(a:cls E i=true):num E (i+1)=num E i:=by unfold num;rw[ops];simp[a]
def Qd{E i}(h:Lj E i):uvp E i:=by
 induction i with
 |zero =>
  have o:zE E 0=0:=rfl;refine⟨by simp[Bi],λd b m=>oM,λd b m=>?_,λd e o b m=>oM,λd b m=>oM⟩;obtain rfl:d=0:=oM;simp[Bi,num,ops]
 |succ i t =>
  have r:=h.g (show i<=i+1 by omega);have k:=t r;have g:=xE r;have u:=xE h;cases n:cls E i with
  |false =>
   have s:=jx n;have c:=kJ n;have q:=Ww E n;refine⟨?_,λd b m=>?_,λd b m=>?_,λd e o b m=>?_,λd b m=>?_⟩
   ·rw[c,Zn oM];exact k.f
   ·rw[c];split
    ·omega
    exact k.ge d b oM
   ·rw[c];split
    ·omega
    have:=k.lt d b oM;omega
   ·rw[c,c,Zn (show ¬d=_ by omega)];split
    ·exact k.lt d o oM
    exact k.l d e o b oM
   by_cases e:d=zE E i+1
   ·refine⟨i,oM,n,?_,?_,e.symm⟩
    ·rw[c,Zp e]
    rw[c,Zn oM,show d-1=zE E i by omega]
   obtain⟨j,j1,j2,j3,j4,p⟩:=k.a d b oM;refine⟨j,oM,j2,?_,?_,p⟩
   ·rw[c,Zn e];exact j3
   rw[c,Zn oM];exact j4
  |true =>
   have s:=xY n;have c:=xX n;have q:=EE n;refine⟨?_,λd b m=>?_,λd b m=>?_,λd e o b m=>?_,λd b m=>?_⟩
   ·rw[c];exact k.f
   ·rw[c];exact k.ge d b oM
   ·rw[c,q];exact k.lt d b oM
   ·rw[c,c];exact k.l d e o b oM
   obtain⟨j,j1,j2,j3,j4,p⟩:=k.a d b oM;exact⟨j,oM,j2,by rw[c];exact j3,by rw[c];exact j4,p⟩
def TN{E i j}(h:Lj E i)(d:i<=j):Fs E i j=0:=by
 induction i with
 |zero=>rfl
 |succ i b =>
  have a:=h.g (show i<=i+1 by omega);rw[Fs,Zn,b a oM];rintro⟨c,e⟩;have k:=(Qd a).lt (zE E i) (xE a) (Eg _);have:=TM E (show i<=j by omega);omega
def Oh E{n i}(b:i<n)d:Jm E n (n-i) d=if cls E i=true/\zE E i=d then (E i).c else Jm E n (n-(i+1)) d:=by
 obtain⟨k,a⟩:∃k,n-i=k+1:=⟨n-i-1,oM⟩;rw[a,Jm,show n-(k+1)=i by omega,show n-(i+1)=k by omega]
def urn{E n j}(h:Whole E n)(w:j<n)(c:cls E j=false):Fs E n j=Jm E n (n-j) (zE E j+1):=by
 obtain⟨f,D⟩:=h;have z:∀i,j<i->i<=n ->
   (zE E j+1<=zE E i/\Bi E i (zE E j+1)=(num E j:Int)/\Fs E i j=0/\Jm E n (n-j) (zE E j+1)=Jm E n (n-i) (zE E j+1)) \/
   ((∀e,1<=e->e<=zE E i->Bi E i e≠(num E j:Int))/\Fs E i j=Jm E n (n-j) (zE E j+1)):=by
  intro i;induction i with
  |zero=>intro h;omega
  |succ i y =>
   intro F G;have s:=f.g (show i<=n by omega);have A:=xE s;have C:=xE (f.g (show j<=n by omega));have B:=xE (f.g (show i+1<=n by omega));have k:=Qd s;by_cases e:i=j
   ·subst e;refine .inl ⟨by rw[jx c];omega,by rw[kJ c,Zp rfl],?_,?_⟩
    ·rw[Fs,Zn (by simp[c]),TN s (wF)]
    rw[Oh E oM,Zn (by simp[c])]
   rcases y oM oM with⟨v,m,t,o⟩|⟨b1,u⟩
   ·cases a:cls E i with
    |false =>
     refine .inl ⟨by rw[jx a];omega,by rw[kJ a,Zn oM];exact m,by rw[Fs,Zn (by simp[a])];exact t,?_⟩;rw[o,Oh E (show i<n by omega),Zn (by simp[a])]
    |true =>
     have x:=xY a;by_cases p:zE E i=zE E j+1
     ·refine .inr ⟨λe d r=>?_,?_⟩
      ·rw[xX a];have:=k.l e (zE E j+1) oM oM oM;omega
      rw[Fs,Zp ⟨a,by rw[p];exact m⟩,o,Oh E (show i<n by omega),Zp ⟨a,p⟩]
     refine .inl ⟨oM,by rw[xX a];exact m,?_,?_⟩
     ·rw[Fs,Zn];exact t;rintro⟨_,q⟩;have:=k.l (zE E j+1) (zE E i) oM oM oM;omega
     rw[o,Oh E (show i<n by omega),Zn (by simp[p])]
   cases a:cls E i with
   |false =>
    refine .inr ⟨λe d r=>?_,by rw[Fs,Zn (by simp[a])];exact u⟩;rw[jx a]at r;rw[kJ a];split
    ·have:=EB E c (show j<i by omega);omega
    exact b1 e d oM
   |true =>
    have x:=xY a;refine .inr ⟨λe d r=>?_,?_⟩
    ·rw[xX a];exact b1 e d oM
    rw[Fs,Zn];exact u;rintro⟨_,q⟩;exact b1 _ oM (Eg _) q
 rcases z n w wF with⟨v,_⟩|⟨_,b⟩
 ·have:=xE (f.g (show j<=n by omega));omega
 exact b
def uro E{n q x}(h:(ops E n)[q]?=some x):q=num E x:=by
 induction n with
 |zero=>simp[ops]at h
 |succ n b =>
  rw[ops]at h;cases a:cls E n with
  |true=>rw[a]at h;exact b (by simpa using h)
  |false =>
   rw[a]at h;simp only[Kr,if_false]at h;by_cases d:q<(ops E n).length
   ·rw[Cr d]at h;exact b h
   rw[Di oM]at h;have:q-(ops E n).length=0:=by
    by_cases e:q-(ops E n).length=0
    ·exact e
    obtain⟨k,c⟩:∃k,q-(ops E n).length=k+1:=⟨q-(ops E n).length-1,oM⟩;rw[c]at h;simp at h
   rw[this]at h;simp at h;subst h;unfold num;omega
def EF{α:Type}{f a:Nat->List α}(l:List Nat)(h:∀y,y∈l->a y=f y):l.flatMap a=l.flatMap f:=by
 induction l with
 |nil=>rfl
 |cons y l c=>rw[Dj,Dj,h y sM,c (λz b=>h z (by simp[b]))]
def TO{α:Type}(f a:Nat->List α)(v:α):∀(l:List Nat) (k:Nat),(∀x,x∈l->(f x).length=5)->k<l.length->(∀q x,l[q]?=some x->a x=if q=k then (f x).set 3 v else f x) ->
  (l.flatMap f).set (k*5+3) v=l.flatMap a
 |[],k,_,hk,_=>by simp at hk
 |x::l,0,hl,_,h=>by
  have b:=h 0 x rfl;have g:l.flatMap a=l.flatMap f:=by
   have:∀y,y∈l->a y=f y:=λy d=>by
    obtain⟨q,c,rfl⟩:=List.getElem_of_mem d;have:=h (q+1) l[q] (by simp[c]);rw[this,Zn oM]
   exact EF l this
  rw[Dj,Dj,g,b,Zp rfl,List.set_append_left _ _ (by rw[hl x sM];omega)]
 |x::l,k+1,hl,hk,h=>by
  have b:=h 0 x rfl;rw[Zn oM]at b;rw[Dj,Dj,b,Qg _ _ (by rw[hl x sM];omega),hl x sM,show(k+1)*5+3-5=k*5+3 by omega];rw[TO f a v l k (λy d=>hl y (by simp[d])) (by simpa using hk) (λq y c=>?_)];have:=h (q+1) y (by simpa using c);rw[this];by_cases e:q=k
  ·rw[Zp e,Zp oM]
  rw[Zn e,Zn oM]
def umb{α:Type}(f:Nat->List α)(l:List Nat)(h:∀x,x∈l->(f x).length=5):(l.flatMap f).length=l.length*5:=by
 induction l with
 |nil=>rfl
 |cons x l b =>
  rw[Dj,wK,h x sM,b (λy a=>h y (by simp[a])),zQ];omega
def TP{α:Type}(f:Nat->List α):∀(l:List Nat) (i j x:Nat),(∀x,x∈l->(f x).length=5)->l[i]?=some x->j<5->(l.flatMap f)[i*5+j]?=(f x)[j]?
 |[],i,j,x,_,h,_=>by simp at h
 |y::l,0,j,x,hl,h,hj=>by
  simp at h;subst h;rw[Dj,Cr (by rw[hl y sM];omega)];simp
 |y::l,i+1,j,x,hl,h,hj=>by
  simp at h;rw[Dj,Di (by rw[hl y sM];omega),hl y sM,show(i+1)*5+j-5=i*5+j by omega];exact TP f l i j x (λz a=>hl z (by simp[a])) h hj
def Lx(E:Nat->Au)(n j:Nat):Bo:=⟨(E j).e,(E j).f,(E j).c,Jm E n (n-j) (zE E j+1),Bi E j (zE E j)⟩
def Mz(E:Nat->Au)(i j:Nat):Bo:=⟨(E j).e,(E j).f,(E j).c,Fs E i j,Bi E j (zE E j)⟩
def Ck(d:Bo):List Value:=[Iv d.e,Iv d.f,Iv d.a,Iv d.to,Iv d.b]
def Wx{d}:(Ck d).length=5:=rfl
def Ij(E:Nat->Au)(n i:Nat):List Value:=(ops E i).flatMap (λj=>Ck (Lx E n j))
def xF(E:Nat->Au)(i:Nat):List Value:=(ops E i).flatMap (λj=>Ck (Mz E i j))
def umc{E n i}(h:cls E i=false):Ij E n (i+1)=Ij E n i++Ck (Lx E n i):=by
 unfold Ij;rw[ops,h];simp
def ujF{E n i}(h:cls E i=true):Ij E n (i+1)=Ij E n i:=by
 unfold Ij;rw[ops,h];simp
def umd{E i}(b:Lj E i)(h:cls E i=false):xF E (i+1)=xF E i++Ck ⟨(E i).e,(E i).f,(E i).c,0,Bi E i (zE E i)⟩:=by
 unfold xF;have e:∀j,Fs E (i+1) j=Fs E i j:=λj=>by rw[Fs,Zn (by simp[h])]
 have a:Mz E (i+1) i=⟨(E i).e,(E i).f,(E i).c,0,Bi E i (zE E i)⟩:=by unfold Mz;rw[e,TN b (wF)]
 rw[ops,h];simp only[Kr,if_false,List.flatMap_append,Dj,List.flatMap_nil,Ca];rw[a];congr 1;refine EF _ (λj _=>?_);unfold Mz;rw[e]
def ujG{E}{i k:Nat}(h:cls E i=true)(b:Bi E i (zE E i)=(k:Int))(d:k<num E i):xF E (i+1)=(xF E i).set (k*5+3) (Iv (E i).c):=by
 unfold xF;rw[ops,h];simp only[if_true];refine(TO _ _ _ _ k (λx _=>Wx) d (λq x g=>?_)).symm;have f:=uro E g;by_cases e:q=k
 ·have a:Fs E (i+1) x=(E i).c:=by rw[Fs,Zp ⟨h,by rw[b,<-e,f]⟩]
  rw[Zp e];unfold Mz;rw[a];rfl
 have a:Fs E (i+1) x=Fs E i x:=by rw[Fs,Zn (λj=>e (by have:=j.2;rw[b]at this;omega))]
 rw[Zn e];unfold Mz;rw[a]
def upf{E n}(h:Whole E n):xF E n=Ij E n n:=by
 unfold xF Ij;refine EF _ (λj c=>?_);obtain⟨a,b⟩:=ED E c;unfold Mz Lx;rw[urn h a b]
def TQ E i:(xF E i).length=num E i*5:=umb _ _ (λ_ _=>Wx)
end Go.Proofs.YtoihadcablknpaaGreatDoor
