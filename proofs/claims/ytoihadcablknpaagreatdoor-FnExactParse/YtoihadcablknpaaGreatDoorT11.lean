import Derived.Test.YtoihadcablknpaaGreatDoorT10
import Derived.Deep.MidRow
set_option linter.unusedVariables false
set_option linter.unusedSimpArgs false
set_option linter.defProp false
set_option maxHeartbeats 40000000
set_option maxRecDepth 100000
namespace Go.Proofs.YtoihadcablknpaaGreatDoor
open Go.RowKit
open Go.Proofs.Tryz
open M (OpD uh Gr)
def ujo z x{k}(h:k<z.length):lf (z++[x]) k=lf z k:=by
 unfold lf;rw[Cx,Cx,Cr h]
def ujp z x:lf (z++[x]) z.length=x:=by
 unfold lf;rw[Cx,Di (wF)];simp
def cl(M:Nat->Bool):Nat->List Int
 |0=>[]
 |b+1=>if M b=true then (if b≠0/\M (b-1)=true then (cl M b).dropLast++[(b:Int)] else cl M b++[(b:Int),(b:Int)]) else cl M b
def CZ M:∀b,(b≠0/\M (b-1)=true->(cl M b).getLast? = some ((b:Int)-1))/\∀x,(cl M b).getLast? = some x->x<=(b:Int)-1/\(¬(b≠0/\M (b-1)=true)->x<(b:Int)-1)
 |0=>⟨λh=>absurd rfl h.1,λx h=>by simp[cl]at h⟩
 |b+1=>by
  obtain⟨f,d⟩:=CZ M b;cases a:M b with
  |false =>
   have e:cl M (b+1)=cl M b:=(by rw[cl,a];simp);rw[e];refine⟨λh=>?_,λx c=>?_⟩
   ·have:=h.2;rw[Ke,a]at this;cases this
   have:=(d x c).1;exact⟨oM,λ_=>oM⟩
  |true =>
   have e:(cl M (b+1)).getLast? = some ((b:Int)):=by
    rw[cl,a];simp only[if_true];split
    ·simp
    simp
   rw[e];refine⟨λ_=>by congr 1;omega,λx c=>?_⟩;cases c;exact⟨oM,λh=>aB ⟨oM,by rw[Ke];exact a⟩ h⟩
def RH M:∀b,b<=256->rg M b=if b≠0/\M (b-1)=true/\b≠256/\M b=true then (cl M b).dropLast else cl M b
 |0,_=>by simp[rg,cl]
 |b+1,hb=>by
  have h:=RH M b oM;have e:cl M (b+1)=(if M b=true then (if b≠0/\M (b-1)=true then (cl M b).dropLast++[(b:Int)] else cl M b++[(b:Int),(b:Int)]) else cl M b):=rfl;rw[QU M b,h,e];generalize cl M b=L;have f:b≠256:=oM;cases a:M b with
  |false=>simp[a]
  |true =>
   by_cases d:b=0
   ·subst d;cases g:M 1<;>simp[a]
   cases i:M (b-1) with
   |false =>
    by_cases c:b=255
    ·subst c;simp[a]
    cases g:M (b+1)<;>simp[a,d,c,f]
   |true =>
    by_cases c:b=255
    ·subst c;simp[a]
    cases g:M (b+1)<;>simp[a,d,c,f]
def RJ M:rg M 256=cl M 256:=by rw[RH M 256 wF,Zn (λh=>h.2.2.1 rfl)]
def Pw{l i x}(h:l[i]?=some x):lf l i=x:=by unfold lf;rw[Cx,h];rfl
def ujq{l b}(h:M.bL l.length (lf l))(f:0<=b)(g:b<=255)(r:∀x,l.getLast? = some x->x+2<=b):M.bL (l++[b,b]).length (lf (l++[b,b])):=by
 obtain⟨t,p⟩:=h;have s:(l++[b,b]).length=l.length+2:=sM;rw[s];have a:∀i,i<l.length->lf (l++[b,b]) i=lf l i:=λi j=>by unfold lf;rw[Cx,Cx,Cr j]
 have d:lf (l++[b,b]) l.length=b:=Pw (by rw[Di (wF)];simp);have e:lf (l++[b,b]) (l.length+1)=b:=Pw (by rw[Di oM];simp);refine⟨oM,λi j=>?_⟩;by_cases c:i<l.length
 ·obtain⟨m,n,c3,o⟩:=p i c;refine⟨by rw[a i c];exact m,by rw[a i c];exact n,λq=>by rw[a i c,a (i-1) oM];exact c3 q,λq=>by rw[a i c,a (i-1) oM];exact o q⟩
 by_cases hi2:i=l.length
 ·subst hi2;refine⟨by rw[d];exact f,by rw[d];exact g,λq=>oM,λq=>?_⟩;rw[d,a (l.length-1) oM];refine r _ ?_;rw[List.getLast?_eq_getElem?];have k:l[l.length-1]?=some l[l.length-1]:=zG oM;rw[k,Pw k]
 obtain rfl:i=l.length+1:=oM;refine⟨by rw[e];exact f,by rw[e];exact g,λq=>by rw[e,Ke,d];exact Eg _,λq=>oM⟩
def ujr{l b x}(h:M.bL (l++[x]).length (lf (l++[x])))(r:x<=b)(m:b<=255):M.bL (l++[b]).length (lf (l++[b])):=by
 obtain⟨f,e⟩:=h;have j:(l++[x]).length=l.length+1:=sM;have k:(l++[b]).length=l.length+1:=sM;rw[j]at f e;rw[k];have c:∀y i,i<l.length->lf (l++[y]) i=lf l i:=λy i d=>ujo l y d
 refine⟨f,λi d=>?_⟩;have a:=e i d;by_cases g:i<l.length
 ·unfold M.dI at a ⊢;rw[c x i g,c x (i-1) oM]at a;rw[c b i g,c b (i-1) oM];exact a
 obtain rfl:i=l.length:=oM;unfold M.dI at a ⊢;rw[ujp]at a ⊢;obtain⟨n,o,c3,p⟩:=a;refine⟨oM,m,λq=>?_,λq=>oM⟩;have:=c3 q;rw[c x (l.length-1) oM]at this;rw[c b (l.length-1) oM];omega
def RL m:∀b,b<=256->M.bL (cl m b).length (lf (cl m b))
 |0,_=>⟨by simp[cl],λi g=>absurd g (by simp[cl])⟩
 |b+1,hb=>by
  have a:=RL m b oM;obtain⟨d,e⟩:=CZ m b;rw[cl];split
  ·split
   ·rename_i c;obtain⟨X,f⟩:=List.getLast?_eq_some_iff.1 (d c);rw[f]at a ⊢;rw[List.dropLast_concat];exact ujr a oM oM
   rename_i c;exact ujq a oM oM (λx h=>oH ((e x h).2 c))
  exact a
def qC m:M.bL (rg m 256).length (lf (rg m 256)):=by
 rw[RJ];exact RL m 256 wF
open M (uw)
def Hn(f:Cp)(n:Bool):Vl :=
 if f.e=0 then .iface 331 (.agg #[Iv f.to,.bool n,Iv (f.c:Int),Iv (f.a:Int)])
 else if f.e=1 then .iface 336 (.agg #[Iv f.to,.bool n,Iv (f.c:Int),Iv (f.a:Int)])
 else .iface 339 (.agg #[Iv f.to,.bool n])
def uZ:Bool->List Cp->List Value
 |_,[]=>[]
 |n,f::r=>Hn f (n||f.e==1)::uZ (n||f.e==1) r
def Zq:∀(l:List Cp) (n:Bool),(uZ n l).length=l.length
 |[],_=>rfl
 |f::r,n=>by rw[uZ,zQ,Zq r,zQ]
def LD f:∀(l:List Cp) (n:Bool),uZ n (l++[f])=uZ n l++[Hn f ((n||l.any (λf=>f.e==1))||f.e==1)]
 |[],n=>by simp[uZ]
 |g::r,n=>by
  rw[Cb,uZ,LD f r,uZ,Cb,List.any_cons,Bool.or_assoc n]
def qr:∀(l:List Cp) (n:Bool) (j:Nat),uZ n (l.take j)=(uZ n l).take j
 |[],n,j=>by simp[uZ]
 |f::r,n,0=>by simp[uZ]
 |f::r,n,j+1=>by rw[List.take_succ_cons,uZ,qr r,uZ,List.take_succ_cons]
def Zr:∀(l:List Cp) (n:Bool) (i:Nat) (f:Cp),l[i]?=some f->(uZ n l)[i]?=some (Hn f (n||(l.take (i+1)).any (λf=>f.e==1)))
 |[],n,i,f,h=>by simp at h
 |g::r,n,0,f,h=>by simp at h;subst h;simp[uZ]
 |g::r,n,i+1,f,h=>by
  simp at h;rw[uZ,List.getElem?_cons_succ,Zr r _ i f h,List.take_succ_cons,List.any_cons,Bool.or_assoc]
structure wY(w:Wl)(b:Nat)(s:wD)(ia:Oa)(il ic:Nat)(mO:Int)(ka:Oa)(kn kc:Nat)(la:Oa)(ln lc:Nat):Prop where
 c0:w.cell? (Ad b 0)=some (Sl ia il ic)
 c1:w.cell? (Ad b 1)=some (Iv mO)
 c2:w.cell? (Ad b 2)=some (Iv s.f)
 c3:w.cell? (Ad b 3)=some (Iv (s.c:Int))
 c4:w.cell? (Ad b 4)=some (Sl ka kn kc)
 c5:w.cell? (Ad b 5)=some (Sl la ln lc)
 c6:w.cell? (Ad b 6)=some (Iv (s.h:Int))
 ex:∀i,i<256->w.cell? (Ad b (7+i))=some (.bool (s.j i))
 c8:w.cell? (Ad b 263)=some (Iv (s.b:Int))
 c9:w.cell? (Ad b 264)=some (Iv (s.d:Int))
 a:w.cell? (Ad b 265)=some (Iv s.label)
 fz:∀j,w.frozen? (Ad b j)=false
structure wO(K L:Np)(w:Wl)(b:Nat)(s:wD)(ia:Oa)(il ic:Nat)(mO:Int)(ka:Oa)(kc:Nat)(la:Oa)(lc:Nat):Prop where
 c:wY w b s ia il ic mO ka s.st.length kc la s.a.length lc
 st:wC K w (Sl ka s.st.length kc) 1 s.st.length (uZ false s.st)
 a:wC L w (Sl la s.a.length lc) 3 s.a.length (uS s.a)
 lt:∀x,K x\/L x->x<w.heap.size
 kl:∀x,K x->¬L x
 kb:¬K b
 lb:¬L b
def wY.on{w w' b s d il ic mO e g f la ln lc}(h:wY w b s d il ic mO e g f la ln lc)(k:w'.heap[b]?=w.heap[b]?):wY w' b s d il ic mO e g f la ln lc:=by
 have c:∀o,w'.cell? (Ad b o)=w.cell? (Ad b o):=λo=>zI (a:=(Ad b o)) k
 exact⟨(c _).trans h.c0,(c _).trans h.c1,(c _).trans h.c2,(c _).trans h.c3,(c _).trans h.c4,(c _).trans h.c5,(c _).trans h.c6,λi l=>(c _).trans (h.ex i l),(c _).trans h.c8,(c _).trans h.c9,(c _).trans h.a,λj=>(Ec (a:=(Ad b j)) k).trans (h.fz j)⟩
def wO.on{K L w w' b s e il ic mO f g la lc}(h:wO K L w b s e il ic mO f g la lc)(k:∀x,K x\/L x\/x=b->w'.heap[x]?=w.heap[x]?)(i:w.heap.size<=w'.heap.size):wO K L w' b s e il ic mO f g la lc :=
 ⟨h.c.on (k b (.inr (.inr rfl))),h.st.on (λx d=>k x (.inl d)),h.a.on (λx d=>k x (.inr (.inl d))),λx d=>wX (h.lt x d) i,h.kl,h.kb,h.lb⟩
def wO.bl{K L w b s a il ic mO d e la lc}(h:wO K L w b s a il ic mO d e la lc):b<w.heap.size:=ud h.c.c0
def wO.q{K L w w' b s a il ic mO c d la lc}(h:wO K L w b s a il ic mO c d la lc)(k:Bw w w'):wO K L w' b s a il ic mO c d la lc :=
 h.on (λx e=>k.block x (by rcases e with q|q|q;exact h.lt x (.inl q);exact h.lt x (.inr q);rw[q];exact h.bl)) k.size
def wY.d{w b s c il ic mO e k g la ln lc}(h:wY w b s c il ic mO e k g la ln lc)z:wY (w.setCell (Ad b 2) (Iv z)) b { s with f:=z } c il ic mO e k g la ln lc :=
 ⟨ui oM h.c0,ui oM h.c1,uu h.c2,ui oM h.c3,ui oM h.c4,ui oM h.c5,ui oM h.c6,λi l=>ui oM (h.ex i l),ui oM h.c8,ui oM h.c9,ui oM h.a,λj=>Jd.trans (h.fz j)⟩
def wY.f{w}{b:Nat}{s d}{il ic:Nat}{mO:Int}{e}{k g:Nat}{la}{ln lc:Nat}(h:wY w b s d il ic mO e k g la ln lc)(z:Nat):wY (w.setCell (Ad b 3) (Iv (z:Int))) b { s with c:=z } d il ic mO e k g la ln lc :=
 ⟨ui oM h.c0,ui oM h.c1,ui oM h.c2,uu h.c3,ui oM h.c4,ui oM h.c5,ui oM h.c6,λi l=>ui oM (h.ex i l),ui oM h.c8,ui oM h.c9,ui oM h.a,λj=>Jd.trans (h.fz j)⟩
def wY.c{w b s d il ic mO l n m la ln lc}(h:wY w b s d il ic mO l n m la ln lc)e g f:wY (w.setCell (Ad b 4) (Sl e g f)) b s d il ic mO e g f la ln lc :=
 ⟨ui oM h.c0,ui oM h.c1,ui oM h.c2,ui oM h.c3,uu h.c4,ui oM h.c5,ui oM h.c6,λi k=>ui oM (h.ex i k),ui oM h.c8,ui oM h.c9,ui oM h.a,λj=>Jd.trans (h.fz j)⟩
def wY.e{w b s c il ic mO d g f la ln lc}(h:wY w b s c il ic mO d g f la ln lc)k m l:wY (w.setCell (Ad b 5) (Sl k m l)) b s c il ic mO d g f k m l :=
 ⟨ui oM h.c0,ui oM h.c1,ui oM h.c2,ui oM h.c3,ui oM h.c4,uu h.c5,ui oM h.c6,λi n=>ui oM (h.ex i n),ui oM h.c8,ui oM h.c9,ui oM h.a,λj=>Jd.trans (h.fz j)⟩
def wY.l{w}{b:Nat}{s c}{il ic:Nat}{mO:Int}{d}{f e:Nat}{la}{ln lc:Nat}(h:wY w b s c il ic mO d f e la ln lc)(z:Nat):wY (w.setCell (Ad b 6) (Iv (z:Int))) b { s with h:=z } c il ic mO d f e la ln lc :=
 ⟨ui oM h.c0,ui oM h.c1,ui oM h.c2,ui oM h.c3,ui oM h.c4,ui oM h.c5,uu h.c6,λi g=>ui oM (h.ex i g),ui oM h.c8,ui oM h.c9,ui oM h.a,λj=>Jd.trans (h.fz j)⟩
def wY.m{w}{b:Nat}{s c}{il ic:Nat}{mO:Int}{d}{f e:Nat}{la}{ln lc:Nat}(h:wY w b s c il ic mO d f e la ln lc)(z:Nat):wY (w.setCell (Ad b 263) (Iv (z:Int))) b { s with b:=z } c il ic mO d f e la ln lc :=
 ⟨ui oM h.c0,ui oM h.c1,ui oM h.c2,ui oM h.c3,ui oM h.c4,ui oM h.c5,ui oM h.c6,λi g=>ui oM (h.ex i g),uu h.c8,ui oM h.c9,ui oM h.a,λj=>Jd.trans (h.fz j)⟩
def wY.n{w}{b:Nat}{s c}{il ic:Nat}{mO:Int}{e}{g f:Nat}{la}{ln lc:Nat}(h:wY w b s c il ic mO e g f la ln lc)(z:Nat):wY (w.setCell (Ad b 264) (Iv (z:Int))) b { s with d:=z } c il ic mO e g f la ln lc :=
 ⟨ui oM h.c0,ui oM h.c1,ui oM h.c2,ui oM h.c3,ui oM h.c4,ui oM h.c5,ui oM h.c6,λi k=>ui oM (h.ex i k),ui oM h.c8,uu h.c9,ui oM h.a,λj=>Jd.trans (h.fz j)⟩
def wY.h{w b s c il ic mO d f e la ln lc}(h:wY w b s c il ic mO d f e la ln lc)z:wY (w.setCell (Ad b 265) (Iv z)) b { s with label:=z } c il ic mO d f e la ln lc :=
 ⟨ui oM h.c0,ui oM h.c1,ui oM h.c2,ui oM h.c3,ui oM h.c4,ui oM h.c5,ui oM h.c6,λi g=>ui oM (h.ex i g),ui oM h.c8,ui oM h.c9,uu h.a,λj=>Jd.trans (h.fz j)⟩
def wO.k{K L w w' b s s' g il ic mO i j la lc}(h:wO K L w b s g il ic mO i j la lc)(f:Bk (λx=>x=b) w w')(m:s'.st=s.st)(l:s'.a=s.a)(n:wY w' b s' g il ic mO i s.st.length j la s.a.length lc):wO K L w' b s' g il ic mO i j la lc:=by
 refine⟨by rw[m,l];exact n,?_,?_,λx c=>by rw[f.h];exact h.lt x c,h.kl,h.kb,h.lb⟩
 ·rw[m];exact h.st.on (λx c=>f.d x (λe=>h.kb (e▸c)))
 rw[l];exact h.a.on (λx c=>f.d x (λe=>h.lb (e▸c)))
def jl(t:wD):Int:=if t.e then t.i else -1
def wE(t:wD)(K L:Np)(b:Nat)(d:Oa)(il ic:Nat)(mO:Int)(w:Wl)(e:Ending)(w':Wl):Prop :=
 e=Rt (Iv (jl t))/\∃z st g h la lc,∃a c:Nat->Prop,(t.e=false->z=t.f/\st=t.st)/\wO a c w' b { t with f:=z,st:=st } d il ic mO g h la lc /\
  (∀x,a x->K x\/wM w w' x)/\(∀x,c x->L x\/wM w w' x)/\Kept (λx=>K x\/L x\/x=b) w w'
def LQ M:∀b,(cl M b).length<=2*b
 |0=>wF
 |b+1=>by
  have:=LQ M b;rw[cl];split
  ·split
   ·rw[wK,Ql,Bs];omega
   rw[wK];simp;omega
  omega
def P9{w0 w1 v l}z y ty(h:zO w0 w1 v l)(E:Bj w0 w1)(G:l.length<=4194304) :
  ∃n w',(Builtin.append_ #[23,23] ty #[v,Sl (Sm w1.heap.size 0) 2 2]).run prog (w1.alloc (Oc #[Iv z,Iv y] 3))=.ok n w'/\zO w0 w' n (l++[z,y])/\Bj w0 w':=by
 obtain⟨P,A,o,k⟩:=h;have b1:=uk w1 (Oc #[Iv z,Iv y] 3);have D:Src prog 1 23 (Sl (Sm w1.heap.size 0) 2 2) 2 [Iv z,Iv y] (w1.alloc (Oc #[Iv z,Iv y] 3)):=by
  refine Gj (P:=prog) _ underlying23 (Ad w1.heap.size 0) 2 2 [Iv z,Iv y] rfl (λj u i=>?_) (λu i=>?_)
  ·match j,i with
   |0,i=>simpa[Addr.add] using (cN w1.heap.size rfl i:(w1.alloc (.cells #[Iv z,Iv y] 3)).cell? (Ad w1.heap.size 0)=some u)
   |1,i=>simpa[Addr.add] using (cN w1.heap.size rfl i:(w1.alloc (.cells #[Iv z,Iv y] 3)).cell? (Ad w1.heap.size 1)=some u)
   |j+2,i=>simp at i
  simp at i;rcases i with rfl|rfl<;>rfl
 obtain⟨n,w',C,F,m,J⟩:=xd ty jz (A.on (λb k=>b1.block b (o b k).2)) D oM (λ_=>oM);refine⟨n,w',C,⟨λb=>(P b\/(w1.alloc (Oc #[Iv z,Iv y] 3)).heap.size<=b)/\b<w'.heap.size,?_,?_,?_⟩,(E.c (qk w1 3) b1).a m⟩
 ·have e:vB (l++[z,y])=vB l++[Iv z,Iv y]:=by simp[vB]
  rw[e,wK];show wC _ _ _ _ (l.length+2) _;rcases F with q|⟨g,cap,e,B,s,t,w,p⟩
  ·exact .inl q
  refine .inr ⟨g,cap,e,⟨B,?_⟩,s,t,w,p⟩;obtain⟨u,i⟩:=Dt.1 (p 0 oM).1;exact ud i
 ·rintro b ⟨q|q,r⟩
  ·exact⟨(o b q).1,r⟩
  have:=k.size;have:=b1.size;exact⟨oM,r⟩
 have H:=k.size;have I:=b1.size;exact⟨m.os.trans (b1.os.trans k.os),m.g.trans (b1.tape.trans k.tape),m.f.trans (b1.output.trans k.output),by have:=m.h;omega,λb x=>(m.d b oM (λq=>oH ((o b q).1))).trans ((b1.block b oM).trans (k.block b x))⟩
def LR{ops:Array Oper}{rest:List Oper}{o:Oper}{a:Act}{e:Exit->Act->World->Prop}(j:o.guard=none)(s x:Operand)(n:o.op=.call { callee:=.builtin .append,args:=#[s,x],argTypes:=#[23,23] })
  {w0 w1:Wl} {v:Vl} {l:LI} {z y:Int} (q:a.eval s=v) (t:a.eval x=Sl (Sm w1.heap.size 0) 2 2) (h:zO w0 w1 v l) (r:Bj w0 w1) (m:l.length<=4194304)
  (k:∀w' l' d b c,Hid (l'=l++[z,y])->Hid (d=l'.length)->Hid (zO w0 w' (Sl b d c) l')->Hid (Bj w0 w')->wpList prog ops e rest (a.put o.dst (Sl b d c)) w'):wpList prog ops e (o::rest) a (w1.alloc (Oc #[Iv z,Iv y] 3)):=by
 refine wpList_plain j λK g=>?_
 obtain⟨u,w',p,f,i⟩:=P9 z y o.type h r m;obtain⟨b,c,rfl⟩:=f.a;unfold Oper.wp execOp;simp only[n,resolve,invoke,builtin,Fa,Gc,Gk,Hs,Er,Gl,q,t,p];exact g _ _ (k w' (l++[z,y]) _ b c rfl rfl f i)
def LU{w0 w a c j X x}(h:zO w0 w (Sl a (j+1) c) (X++[x]))(v:X.length=j) :
  ∃g,a=some (Ad g 0)/\w0.heap.size<=g/\g<w.heap.size/\w.cell? (Ad g j)=some (Iv x)/\w.frozen? (Ad g j)=false/\∀y:Int,zO w0 (w.setCell (Ad g j) (Iv y)) (Sl (Sm g 0) (j+1) c) (X++[y]):=by
 subst v;obtain⟨P,A,f,t⟩:=h;have F:(X++[x]).length=X.length+1:=sM;rcases A with⟨_,e,_⟩|⟨g,cap,e,k,D,E,r,s⟩
 ·omega
 injection e with e1 e2 e3;subst e3;have l:vB (X++[x])=vB X++[Iv x]:=by simp[vB]
 have d:(vB X).length=X.length:=by simp[vB]
 have n:w.cell? (Ad g X.length)=some (Iv x):=by
  rw[r X.length (by rw[l];simp[d]),l,Di oM,d];simp
 refine⟨g,e1,(f g k).1,(f g k).2,n,(s X.length oM).2,λy=>⟨P,?_,λb q=>by rw[uj];exact f b q,?_⟩⟩
 ·have m:vB (X++[y])=vB X++[Iv y]:=by simp[vB]
  have z:(X++[y]).length=X.length+1:=sM;rw[z];refine .inr ⟨g,c,rfl,k,by rw[m];simp[d],oM,λi o=>?_,λi o=>?_⟩
  ·rw[m,wK,d,Bs]at o;by_cases e:i=X.length
   ·subst e;rw[uu n,m,Di oM,d];simp
   rw[ur (λq=>e q.symm),r i (by rw[l];simp[d];omega),l,m,Cr oM,Cr oM]
  obtain⟨B,C⟩:=s i o;refine⟨?_,Jd.trans C⟩;by_cases e:i=X.length
  ·subst e;rw[uu n];rfl
  rw[ur (λq=>e q.symm)];exact B
 have u:=(f g k).1;exact t.setCell (p:=(Ad g X.length)) u _
def AC(l:LI)(w:Wl)(e:Ending)(w':Wl):Prop:=∃a c,e=Rt (Sl a l.length c)/\zO w w' (Sl a l.length c) l/\Bj w w'
def Q0(w:Wl)(M:Nat->Bool)(b a:Vl)(wr:Wl):Prop:=∃k:Nat,k<=256/\a=Iv (k:Int)/\zO w wr b (cl M k)/\Bj w wr
def AD:(prog.info? 207).map (·.size)=some 256:=rR
def Q1:(prog.info? 4).map (·.size)=some 1:=rR
def Q2 a(k:Nat)v w(f:k<256)(e:a[k]?=some v):(Instr.index 207 (.agg a) (Iv (k:Int))).run prog w=.ok v w:=by
 obtain⟨j,c,d⟩:=Gu.1 Q1;have b:(k:Int)<256:=oM;simp[Instr.index,asIntOf,run_underlying underlying207,run_underlying underlying4,Go.part,isAgg,sizeOf,typeInfo,c,d,b,e];intro q;omega
def LV b r M w(hs:r.size=256)(hM:∀i,i<256->r[i]?=some (.bool (M i==b))) :
  Cs 148 #[.agg r,.bool b] w (AC (rg M 256) w):=by
 have U:=ua hM;have T:Hid (∀e w',AC (cl M 256) w e w'->AC (rg M 256) w e w'):=λe w' h=>by rw[RJ];exact h
 go_enter func148,ntmps148;go_wp2;refine wp_load_mid 207 (.tmp 2) rfl w.heap.size 0 rfl r.toList (.array 256 4) (λj v hv=>?_) underlying207 rfl (by rw[Ku,hs];exact AD) ?_
 ·rw[zL];exact uP (xq w _ _ rfl) (by simpa using hv)
 rw[Array.toArray_toList];go_wp2;go_loopw [5,9] (λR E wr=>Q0 w M R E wr) (λR E _=>256-(intOf E).toNat)
 ·exact⟨0,oM,rfl,zO.nil (wG w),qk w 207⟩
 obtain⟨k,hk,rfl,c,aa⟩:=hrel;have p:=ua aa;obtain⟨P,Q,rfl⟩:=c.a;have ag:=LQ M k;obtain⟨t,J⟩:=nm ((cl M k).length);rw[J]at c ag ⊢;have f:=ua c;have d:=ua J;by_cases I:k<256
 ·have hlt':(k:Int)<256:=oM;have y:=λw=>Q2 r k _ w I (U k I)
  have s:cl M (k+1)=(if M k=true then (if k≠0/\M (k-1)=true then (cl M k).dropLast++[(k:Int)] else cl M k++[(k:Int),(k:Int)]) else cl M k):=rfl;cases G:M k with
  |false =>
   rw[G]at s y;have ah:((!b) != b)=true:=by cases b<;>rfl
   rw[show(false==b) = !b by cases b<;>rfl]at y;have m:Hid (cl M (k+1)=cl M k):=(by show _=_;rw[s];simp);go_wp2;go_roundw
   ·exact⟨k+1,oM,by go_num,by rw[m.o];exact f,p⟩
   simp[intOf];omega
  |true =>
   rw[G]at s y;have ah:(b != b)=false:=by cases b<;>rfl
   rw[show(true==b)=b by cases b<;>rfl]at y;obtain⟨ae,af⟩:=CZ M k;by_cases z:k≠0/\M (k-1)=true
   ·have m:Hid (cl M (k+1)=(cl M k).dropLast++[(k:Int)]):=(by show _=_;rw[s,Zp rfl,Zp z]);obtain⟨X,H⟩:=nm ((cl M k).dropLast);have o:cl M k=X++[(k:Int)-1]:=by
     rw[<-H];have:=ae z;rw[List.getLast?_eq_some_iff]at this;obtain⟨ys,hy⟩:=this;rw[hy];simp
    obtain⟨j,rfl⟩:∃j,t=j+1:=⟨t-1,by have:=d.o;rw[o,wK,Bs]at this;omega⟩;have u:X.length=j:=(by have:=d.o;rw[o,wK,Bs]at this;omega);have c:=f;rw[o]at c;obtain⟨g,rfl,g1,g2,D,f1,N⟩:=LU c u;have V:=ua N;have Y:Hid (cl M (k+1)=X++[(k:Int)]):=(by show _=_;rw[m.o,H]);have ai:=ua u;have ab:(0:Int)<((j+1:Nat):Int):=oM;have e1:((j+1:Nat):Int)-1=(j:Int):=oM;have ad:(j:Int)<((j+1:Nat):Int):=oM;have ac:j<=512:=oM;go_wp2;go_roundw
    ·exact⟨k+1,oM,by go_num,by rw[Y.o];exact V _,p.set _ _⟩
    simp[intOf];omega
   have m:Hid (cl M (k+1)=cl M k++[(k:Int),(k:Int)]):=(by show _=_;rw[s,Zp rfl,Zn z]);rcases Nat.eq_zero_or_pos t with F|F
   ·subst F;go_wp2_with (at_builtin;refine LR (l:=cl M k) rfl _ _ rfl rfl rfl f.o p.o (by rw[d.o];omega) ?_;intro W L n Z D A S B C);go_roundw
    ·exact⟨k+1,oM,by go_num,by rw[m.o];exact A.o▸B.o,C.o⟩
    simp[intOf];omega
   obtain⟨j,rfl⟩:∃j,t=j+1:=⟨t-1,oM⟩;obtain⟨x,O⟩:∃x,(cl M k).getLast? = some x:=by
    cases q:(cl M k).getLast? with
    |none=>rw[List.getLast?_eq_none_iff]at q;have:=d.o;rw[q]at this;simp at this
    |some x=>exact⟨x,rfl⟩
   have ak:=(af x O).2 z;obtain⟨X,o⟩:=List.getLast?_eq_some_iff.1 O;have u:X.length=j:=(by have:=d.o;rw[o,wK,Bs]at this;omega);have c:=f;rw[o]at c;obtain⟨g,rfl,g1,g2,D,f1,N⟩:=LU c u;have aj:(x==(k:Int)-1)=false:=sO;have ab:(0:Int)<((j+1:Nat):Int):=oM;have e1:((j+1:Nat):Int)-1=(j:Int):=oM;have ad:(j:Int)<((j+1:Nat):Int):=oM;have ac:j<=512:=oM;go_wp2_with (at_builtin;refine LR (l:=cl M k) rfl _ _ rfl rfl rfl f.o p.o (by rw[d.o];omega) ?_;intro W L n Z D A S B C);go_roundw
   ·exact⟨k+1,oM,by go_num,by rw[m.o];exact A.o▸B.o,C.o⟩
   simp[intOf];omega
 obtain rfl:k=256:=oM;go_wp2;go_ret;refine T _ _ ⟨P,Q,zD (λn=>Rt (Sl P n Q)) d.symm,?_,p⟩;rw[d.o];exact f
def MA(v:Vl)(W:Wl)(e:Ending)(w':Wl):Prop:=e=Rt v/\w'=W
def MB b a c w(d:w.cell? (Ad b 4)=some (Sl a 0 c)) :
  Cs 210 #[.pointer (Sm b 0)] w (MA .nilIface w):=by
 go_enter func210,ntmps210;go_wp2;go_ret;exact⟨rfl,rfl⟩
def AH b g j a{v} w(c:w.cell? (Ad b 4)=some (Sl (Sm g 0) (j+1) a))(f:w.frozen? (Ad b 4)=false)(d:w.cell? (Ad g j)=some v)(h:j<=1000)(i:j+1<=a) :
  Cs 210 #[.pointer (Sm b 0)] w (MA v (w.setCell (Ad b 4) (Sl (Sm g 0) j a))):=by
 have e:((j+1:Nat):Int)-1=(j:Int):=oM;have k:(j:Int)<((j+1:Nat):Int):=oM;have hk':(j:Int)<=(a:Int):=oM;go_enter func210,ntmps210;go_wp2;go_ret;exact⟨rfl,rfl⟩
def AI:(prog.info? 325).map (·.size)=some 2:=rR
def Q6 : (Tryz.prog.info? 331).bind (fun i => (i.methods.find? (·.name == "loop.example/s0055/impl.head")).map (fun m => (m.path, m.func))) = some (#[⟨331, 0, false⟩], some (318, false)) := by kernel_rfl
def Q7 fuel a b c d w : (method (fuel + 1) 331 (.agg #[a, b, c, d]) "loop.example/s0055/impl.head").run Tryz.prog w = .ok (318, .agg #[a, b]) w := by
 obtain⟨i,hi,hm⟩:=Option.bind_eq_some_iff.1 Q6;obtain⟨m,hf,hmm⟩:=Gu.1 hm;simp only[Kt]at hmm;obtain⟨j,hj,hs⟩:=Gu.1 AI;unfold method;simp[typeInfo,hi,hf,hmm.1,hmm.2,hj,hs,follow,run_underlying Tryz.underlying331,run_underlying Tryz.underlying325,receiverAt,Go.part,isAgg,sizeOf,Place.get]
def Q8 : (Tryz.prog.info? 336).bind (fun i => (i.methods.find? (·.name == "loop.example/s0055/impl.head")).map (fun m => (m.path, m.func))) = some (#[⟨336, 0, false⟩], some (318, false)) := by kernel_rfl
def Q9 fuel a b c d w : (method (fuel + 1) 336 (.agg #[a, b, c, d]) "loop.example/s0055/impl.head").run Tryz.prog w = .ok (318, .agg #[a, b]) w := by
 obtain⟨i,hi,hm⟩:=Option.bind_eq_some_iff.1 Q8;obtain⟨m,hf,hmm⟩:=Gu.1 hm;simp only[Kt]at hmm;obtain⟨j,hj,hs⟩:=Gu.1 AI;unfold method;simp[typeInfo,hi,hf,hmm.1,hmm.2,hj,hs,follow,run_underlying Tryz.underlying336,run_underlying Tryz.underlying325,receiverAt,Go.part,isAgg,sizeOf,Place.get]
def R1 : (Tryz.prog.info? 339).bind (fun i => (i.methods.find? (·.name == "loop.example/s0055/impl.head")).map (fun m => (m.path, m.func))) = some (#[⟨339, 0, false⟩], some (318, false)) := by kernel_rfl
def R2 fuel a b w : (method (fuel + 1) 339 (.agg #[a, b]) "loop.example/s0055/impl.head").run Tryz.prog w = .ok (318, .agg #[a, b]) w := by
 obtain⟨i,hi,hm⟩:=Option.bind_eq_some_iff.1 R1;obtain⟨m,hf,hmm⟩:=Gu.1 hm;simp only[Kt]at hmm;obtain⟨j,hj,hs⟩:=Gu.1 AI;unfold method;simp[typeInfo,hi,hf,hmm.1,hmm.2,hj,hs,follow,run_underlying Tryz.underlying339,run_underlying Tryz.underlying325,receiverAt,Go.part,isAgg,sizeOf,Place.get]
def AJ z n w:(Instr.field 325 (.agg #[Iv z,.bool n]) 1).run prog w=.ok (.bool n) w:=by
 simp[Instr.field,run_underlying underlying325,run_underlying underlying4,Go.part,isAgg,asAgg]
def AK{z}{n}{w}:Cs 318 #[.agg #[Iv z,.bool n]] w (CV (.agg #[Iv z,.bool n]) w):=by
 go_enter func318,ntmps318;go_wp2;refine wL (v:=.agg #[Iv z,.bool n]) ?_ rfl ⟨rfl,Bn w⟩;simp[results,f318,go_sem]
def R7 b a c w(d:w.cell? (Ad b 4)=some (Sl a 0 c)) :
  Cs 204 #[.pointer (Sm b 0)] w (Od false w):=by
 go_enter func204,ntmps204;go_wp2;go_ret;exact⟨rfl,wI _⟩
def R8 b g j m f n w(o:w.cell? (Ad b 4)=some (Sl (Sm g 0) (j+1) m))(i:w.cell? (Ad g j)=some (Hn f n))(q:j<=1000) :
  Cs 204 #[.pointer (Sm b 0)] w (Od n w):=by
 have p:((j+1:Nat):Int)-1=(j:Int):=oM;have r:(j:Int)<((j+1:Nat):Int):=oM;unfold Hn at i;split at i
 ·skip
  have k:=AJ f.to n;have l:=λfU w=>Q7 fU (Iv f.to) (.bool n) (Iv f.c) (Iv f.a) w
  go_enter func204,ntmps204;go_wp2_with (go_at_call 318;refine(AK).mono ?_;rintro e W ⟨rfl,d⟩;have h:Hid _:=d;clear d);go_ret;exact⟨rfl,h⟩
 split at i
 ·skip
  have k:=AJ f.to n;have l:=λfU w=>Q9 fU (Iv f.to) (.bool n) (Iv f.c) (Iv f.a) w
  go_enter func204,ntmps204;go_wp2_with (go_at_call 318;refine(AK).mono ?_;rintro e W ⟨rfl,d⟩;have h:Hid _:=d;clear d);go_ret;exact⟨rfl,h⟩
 skip
 have k:=AJ f.to n;have l:=λfU w=>R2 fU (Iv f.to) (.bool n) w
 go_enter func204,ntmps204;go_wp2_with (go_at_call 318;refine(AK).mono ?_;rintro e W ⟨rfl,d⟩;have h:Hid _:=d;clear d);go_ret;exact⟨rfl,h⟩
def MD{K w a b l j f}(h:wC K w (Sl a l.length b) 1 l.length (uZ false l))(o:l.length=j+1)(d:l[j]?=some f) :
  ∃g,a=some (Ad g 0)/\K g/\l.length<=b/\w.cell? (Ad g j)=some (Hn f (l.any (λf=>f.e==1))):=by
 rcases h with⟨_,e,_⟩|⟨g,cap,e,i,k,m,c,n⟩
 ·omega
 injection e with e1 e2 e3;refine⟨g,e1,i,oM,?_⟩;rw[c j (by rw[Zq];omega),Zr l false j f d,Jo oM,Bool.false_or]
def jJ K L b s p il ic mO m i la lc{w}(k:wO K L w b s p il ic mO m i la lc)(t:s.st.length<=1000) :
  Cs 204 #[.pointer (Sm b 0)] w (Od s.l w):=by
 have a:=k.c.c4;rcases Nat.eq_zero_or_pos s.st.length with d|d
 ·have e:s.l=false:=by unfold wD.l;rw[Hh d];rfl
  rw[e];rw[d]at a;exact R7 b m i w a
 obtain⟨j,h⟩:∃j,s.st.length=j+1:=⟨s.st.length-1,oM⟩;obtain⟨f,o,_⟩:=QO h;obtain⟨g,rfl,q,r,n⟩:=MD k.st h o;rw[h]at a;exact R8 b g j i f s.l w a n oM
def ME K L b s f il ic mO g h la lc z w(m:wO K L w b s f il ic mO g h la lc)(n:s.st.length<=1000) :
  Cs 208 #[.pointer (Sm b 0),Iv z] w (CV (.agg #[Iv z,.bool s.l]) w):=by
 have i:=ua m;obtain⟨o,d⟩:=nm s.l;have k:=ua d;rw[d];go_enter func208,ntmps208;go_wp2_with fail;refine(jJ K L b s f il ic mO g h la lc (i.q (wG w)) n).mono ?_;rintro e W ⟨rfl,c⟩;rw[k.o];have u:=ue (a:=(Ad w.heap.size 0)) (v:=Iv 0) (cN w.heap.size rfl rfl) c;have x:=ue (a:=(Ad w.heap.size 1)) (v:=Bf) (cN w.heap.size rfl rfl) c;have r:W.frozen? (Ad w.heap.size 0)=false:=by
  rw[c.frozen (p:=(Ad w.heap.size 0)) sM];exact qk w 325 _ _ oM sM
 have t:W.frozen? (Ad w.heap.size 1)=false:=by
  rw[c.frozen (p:=(Ad w.heap.size 1)) sM];exact qk w 325 _ _ oM sM
 have j:=ua (uf (wG w) c);go_wp2;refine wL (v:=.agg #[Iv z,.bool o]) ?_ rfl ?_
 ·simp[results,f208,go_sem, *]
 exact⟨rfl,uy (uy j oM) oM⟩
def AL(b pos ln lc:Nat)la{w}(c3:w.cell? (Ad b 3)=some (Iv (pos:Int)))(a:w.cell? (Ad b 5)=some (Sl la ln lc)) :
  Cs 209 #[.pointer (Sm b 0)] w (CV (.agg #[Iv (pos:Int),Iv (ln:Int)]) w):=by
 have lb:=ud c3;go_enter func209,ntmps209;go_wp2;go_region;all_goals
  go_wp2;refine wL (v:=.agg #[Iv pos,Iv ln]) ?_ rfl ?_
  ·simp[results,f209,go_sem, *]
  exact⟨rfl,(wG w).drew⟩
end Go.Proofs.YtoihadcablknpaaGreatDoor
