import Derived.Test.YtimfigongapdnaaGreatT28
set_option linter.unusedVariables false
set_option linter.unusedSimpArgs false
set_option maxHeartbeats 40000000
set_option maxRecDepth 100000
namespace Go.Proofs.YtimfigongapdnaaGreat
open Go.RowKit
open M (OpD ug Gr)
structure Rl where
 car:Option Tok
 name:Tok
 eq:Tok
 body:PE
 semi:Tok
def Rl.tk(r:Rl):List Tok:=r.car.toList++(r.name::r.eq::(r.body.tk++[r.semi]))
def Rl.ok(r:Rl):Prop:=(∀c,r.car=some c->c.kind=94)/\r.name.kind=110/\r.eq.kind=61/\r.body.ok 5/\r.semi.kind=59
def uaT(n:Nat)(a:Option Tok)(l:List Tok):Sum Nat (Rl×List Tok) :=
 match l with
 |[]=>.inl n
 |x::r =>
  if x.kind=110 then
   (match r with
   |[]=>.inl n
   |y::r1 =>
    if y.kind=61 then
     (match rd n (8*r1.length+8) 5 .emp r1 with
      |.inl p=>.inl p
      |.inr (e,r2) =>
       match r2 with
       |[]=>.inl n
       |z::r3=>if z.kind=59 then .inr (⟨a,x,y,e,z⟩,r3) else .inl z.at_)
    else .inl y.at_)
  else .inl x.at_
def udC(n:Nat)(l:List Tok):Sum Nat (Rl×List Tok) :=
 match l with
 |[]=>.inl n
 |x::r=>if x.kind=94 then uaT n (some x) r else uaT n none (x::r)
def ubx(n:Nat):Nat->List Tok->Sum Nat (List Rl)
 |0,l=>.inl (pos n l)
 |f+1,l =>
  match l with
  |[]=>.inr []
  |x::r =>
   match udC n (x::r) with
   |.inl p=>.inl p
   |.inr (q,r') =>
    match ubx n f r' with
    |.inl p=>.inl p
    |.inr a=>.inr (q::a)
theorem upz{s}(a:s=3\/s=6):uN s 0 59=(0,0):=by rcases a with rfl|rfl<;>rfl
theorem uk9{s k}(m:s=3\/s=6)(a:¬beg k)(f:k≠47)(h:k≠59)(n:s=6->k≠42/\k≠63):(uN s 0 k).1=7:=by
 unfold beg at a;simp only[not_or]at a;obtain⟨b,c,d,e,g,i,j,l⟩:=a;rcases m with rfl|rfl
 ·simp[uN,b,c,d,e,g,i,j,l,f,h]
 obtain⟨o,p⟩:=n rfl;simp[uN,b,c,d,e,g,i,j,l,f,h,o,p]
theorem udD n(g:Option Tok)(w:∀c,g=some c->c.kind=94)l s(i:s=0\/s=1)(B:s=0->kAt l 0≠94)(A:s=0->l≠[]) :
  (∀p,uaT n g l=.inl p->uv n l s 0=(p:Int))/\(∀q r,uaT n g l=.inr (q,r)->q.ok/\g.toList++l=q.tk++r/\uv n l s 0=uv n r 0 0):=by
 cases l with
 |nil =>
  have D:=i.resolve_left (λq=>A q rfl);exact⟨(λp h=>by simp only[uaT]at h;injection h with h;subst h;exact xf n 0 (by omega)),(λq r h=>by simp[uaT]at h)⟩
 |cons x r =>
  simp only[uaT];by_cases a:x.kind=110
  ·rw[if_pos a];have st:uv n (x::r) s 0=uv n r 2 0:=ve n (by omega) (by rw[a];rcases i with rfl|rfl<;>rfl) (by omega);rw[st];cases r with
   |nil=>exact⟨(λp h=>by injection h with h;subst h;exact xf n 0 (by omega)),(λq r h=>by cases h)⟩
   |cons y r1 =>
    simp only;by_cases b:y.kind=61
    ·rw[if_pos b];have C:uv n (y::r1) 2 0=uv n r1 3 0:=ve n (by omega) (by rw[b];rfl) (by omega);rw[C];obtain⟨k,m⟩:=(um5 n (8*r1.length+8)).2.2.2.2.2.1 r1 (by omega);cases j:rd n (8*r1.length+8) 5 .emp r1 with
     |inl p=>exact⟨(λE h=>by injection h with h;subst h;exact k p j 0),(λq r h=>by cases h)⟩
     |inr q =>
      obtain⟨e,r2⟩:=q;obtain⟨b1,o,t,u,s',f,v⟩:=m e r2 j;simp only;rw[v 0];cases r2 with
      |nil=>exact⟨(λp h=>by injection h with h;subst h;exact xf n 0 (by rcases f.1 with rfl|rfl<;>omega)),(λq r h=>by cases h)⟩
      |cons z F =>
       simp only;by_cases d:z.kind=59
       ·rw[if_pos d];refine⟨(λp h=>by cases h),λq r h=>?_⟩;injection h with h;injection h with ha hb;subst ha hb;exact⟨⟨w,a,b,b1,d⟩,by rw[o];simp[Rl.tk],ve n (by omega) (by rw[d];exact upz f.1) (by omega)⟩
       rw[if_neg d];exact⟨(λp h=>by injection h with h;subst h;exact xT n (.inr (uk9 f.1 t u d f.2))),(λq r h=>by cases h)⟩
    rw[if_neg b];exact⟨(λp h=>by injection h with h;subst h;exact xT n (.inr (by simp[uN,b]))),(λq r h=>by cases h)⟩
  rw[if_neg a];refine⟨(λp h=>?_),(λq r h=>by cases h)⟩;injection h with h;subst h;refine xT n (.inr ?_);rcases i with rfl|rfl
  ·have:x.kind≠94:=B rfl;simp[uN,a,this]
  simp[uN,a]
theorem uiF n l(b:l≠[]) :
  (∀p,udC n l=.inl p->uv n l 0 0=(p:Int))/\(∀q r,udC n l=.inr (q,r)->q.ok/\l=q.tk++r/\uv n l 0 0=uv n r 0 0):=by
 cases l with
 |nil=>exact absurd rfl b
 |cons x r =>
  simp only[udC];by_cases a:x.kind=94
  ·rw[if_pos a];have st:uv n (x::r) 0 0=uv n r 1 0:=ve n (by omega) (by rw[a];rfl) (by omega);rw[st];exact udD n (some x) (λc h=>by injection h with h;subst h;exact a) r 1 (.inr rfl) (λq=>absurd q (by omega)) (λq=>absurd q (by omega))
  rw[if_neg a];exact udD n none (λc h=>by cases h) (x::r) 0 (.inl rfl) (λ_=>a) (λ_=>b)
theorem ue5 n:∀f l,l.length<f->(∀p,ubx n f l=.inl p->uv n l 0 0=(p:Int))/\(∀a,ubx n f l=.inr a->(∀q∈a,q.ok)/\l=a.flatMap Rl.tk/\uv n l 0 0 = -1)
 |0,l,h=>absurd h (by omega)
 |f+1,l,h=>by
  cases l with
  |nil =>
   simp only[ubx];refine⟨(λp h=>by cases h),λa h=>?_⟩;injection h with h;subst h;exact⟨(λq b=>by cases b),rfl,rfl⟩
  |cons x r =>
   simp only[ubx];obtain⟨i,j⟩:=uiF n (x::r) (by simp);cases b:udC n (x::r) with
   |inl p=>exact⟨(λv h=>by injection h with h;subst h;exact i p b),(λa h=>by cases h)⟩
   |inr q =>
    obtain⟨q,c⟩:=q;obtain⟨b1,d,e⟩:=j q c b;have y:(x::r).length=q.tk.length+c.length:=(by rw[d,List.length_append]);have z:0<q.tk.length:=(by simp[Rl.tk];omega);obtain⟨k,m⟩:=ue5 n f c (by omega);simp only;cases g:ubx n f c with
    |inl p=>exact⟨(λv h=>by injection h with h;subst h;rw[e];exact k p g),(λa h=>by cases h)⟩
    |inr a =>
     refine⟨(λp h=>by cases h),λA h=>?_⟩;injection h with h;subst h;obtain⟨o,s,t⟩:=m a g;refine⟨λw u=>?_,by rw[d,List.flatMap_cons,<-s],by rw[e];exact t⟩;rcases List.mem_cons.1 u with rfl|h
     ·exact b1
     exact o w h
def kJ:Int->List Tok->Prop
 |_,[]=>False
 |d,x::r=>yO x.kind d=0\/kJ (yO x.kind d) r
theorem upk:∀(e:PE) (l:Nat),e.ok l->∀(d:Int) (r:List Tok),0<d->kJ d r->kJ d (e.tk++r):=by
 have j:∀(t:Tok) (d:Int) (r:List Tok),t.kind≠40->t.kind≠41->kJ d r->kJ d (t::r):=λt d r h s f=>.inr (by rw[uL h s];exact f)
 intro e;induction e with
 |ref t=>intro l h d r g f;have:t.kind=110:=h;exact j t d r (by omega) (by omega) f
 |str t=>intro l h d r g f;have:t.kind=34:=h;exact j t d r (by omega) (by omega) f
 |cls t=>intro l h d r g f;have:t.kind=91:=h;exact j t d r (by omega) (by omega) f
 |dot t=>intro l h d r g f;have:t.kind=46:=h;exact j t d r (by omega) (by omega) f
 |thr c t =>
  intro l h d r g f;obtain⟨n,k⟩:=h;exact j c d _ (by omega) (by omega) (j t d r (by omega) (by omega) f)
 |grp o e c m =>
  intro l h d r g f;obtain⟨n,k,i⟩:=h;show kJ d (o::((e.tk++[c])++r));refine .inr ?_;rw[n,xO,List.append_assoc];refine m 5 i (d+1) _ (by omega) (.inr ?_);rw[k,kS,show d+1-1=d by omega];exact f
 |star e t m =>
  intro l h d r g f;obtain⟨_,k,i⟩:=h;show kJ d ((e.tk++[t])++r);rw[List.append_assoc];exact m 0 i d _ g (j t d r (by omega) (by omega) f)
 |opt e t m =>
  intro l h d r g f;obtain⟨_,k,i⟩:=h;show kJ d ((e.tk++[t])++r);rw[List.append_assoc];exact m 0 i d _ g (j t d r (by omega) (by omega) f)
 |not t e m =>
  intro l h d r g f;obtain⟨_,k,i⟩:=h;exact j t d _ (by omega) (by omega) (m 2 i d r g f)
 |amp t e m =>
  intro l h d r g f;obtain⟨_,k,i⟩:=h;exact j t d _ (by omega) (by omega) (m 2 i d r g f)
 |emp=>intro l h d r g f;exact f
 |seq a b p q =>
  intro l h d r g f;obtain⟨_,k,i⟩:=h;show kJ d ((a.tk++b.tk)++r);rw[List.append_assoc];exact p 3 k d _ g (q 2 i d r g f)
 |alt a t b p q =>
  intro l h d r g f;obtain⟨_,n,k,i⟩:=h;show kJ d ((a.tk++t::b.tk)++r);rw[List.append_assoc];exact p 5 k d _ g (j t d _ (by omega) (by omega) (q 4 i d r g f))
def jc(l:List Tok):Prop:=yP l<l.length/\(kAt (l.drop (yP l)) 0=94->kJ 0 (l.drop (yP l+1)))/\(¬kAt (l.drop (yP l)) 0=94->kJ 0 (l.drop (yP l)))
theorem kQ(e:PE)(h:e.ok 0)(r:List Tok):jc (e.tk++r):=by
 have f:=(qL e h r).1;unfold jc;rw[f,List.drop_zero,Nat.zero_add];have g:=(vW e (PE.ok_mono e (by omega) h) r).2.2;refine⟨by rw[List.length_append];omega,?_⟩;cases e with
 |ref t=>have:t.kind=110:=h;exact⟨λq=>absurd (show t.kind=94 from q) (by omega),λ_=>.inl (uL (by omega) (by omega) 0)⟩
 |str t=>have:t.kind=34:=h;exact⟨λq=>absurd (show t.kind=94 from q) (by omega),λ_=>.inl (uL (by omega) (by omega) 0)⟩
 |cls t=>have:t.kind=91:=h;exact⟨λq=>absurd (show t.kind=94 from q) (by omega),λ_=>.inl (uL (by omega) (by omega) 0)⟩
 |dot t=>have:t.kind=46:=h;exact⟨λq=>absurd (show t.kind=94 from q) (by omega),λ_=>.inl (uL (by omega) (by omega) 0)⟩
 |thr c t =>
  obtain⟨a,b⟩:=h;exact⟨λ_=>.inl (uL (by omega) (by omega) 0),λq=>absurd a q⟩
 |grp o e c =>
  obtain⟨a,b,d⟩:=h;refine⟨λq=>absurd (show o.kind=94 from q) (by omega),λ_=>?_⟩;show kJ 0 (o::((e.tk++[c])++r));refine .inr ?_;rw[a,xO,List.append_assoc];refine upk e 5 d _ _ (by omega) (.inl ?_);rw[b,kS];omega
 |star _ _=>exact absurd h.1 (by omega)
 |opt _ _=>exact absurd h.1 (by omega)
 |not _ _=>exact absurd h.1 (by omega)
 |amp _ _=>exact absurd h.1 (by omega)
 |emp=>exact absurd h (by show ¬(4<=0);omega)
 |seq _ _=>exact absurd h.1 (by omega)
 |alt _ _ _=>exact absurd h.1 (by omega)
theorem umY t l(c:t.kind=33\/t.kind=38)(h:jc l):jc (t::l):=by
 obtain⟨d,a,b⟩:=h;unfold jc;rw[yP,if_pos c];exact⟨by rw[List.length_cons];omega,a,b⟩
theorem ujR:∀(e:PE),e.ok 2->∀(r:List Tok),jc (e.tk++r):=by
 intro e;induction e with
 |not t e d=>intro h r;exact umY t _ (.inl h.2.1) (d h.2.2 r)
 |amp t e d=>intro h r;exact umY t _ (.inr h.2.1) (d h.2.2 r)
 |star e t _=>intro h r;show jc ((e.tk++[t])++r);rw[List.append_assoc];exact kQ e h.2.2 _
 |opt e t _=>intro h r;show jc ((e.tk++[t])++r);rw[List.append_assoc];exact kQ e h.2.2 _
 |emp=>intro h;exact absurd h (by show ¬(4<=2);omega)
 |seq a b _ _=>intro h;exact absurd h.1 (by omega)
 |alt a t b _ _=>intro h;exact absurd h.1 (by omega)
 |ref t=>intro h r;exact kQ _ h r
 |thr c t=>intro h r;exact kQ _ h r
 |str t=>intro h r;exact kQ _ h r
 |cls t=>intro h r;exact kQ _ h r
 |dot t=>intro h r;exact kQ _ h r
 |grp o e c _=>intro h r;exact kQ _ h r
theorem jR{l i x}(h:l[i]?=some x):kAt l i=x.kind:=by unfold kAt;rw[h]
theorem uhi l i:kAt (l.drop i) 0=kAt l i:=by unfold kAt;rw[List.getElem?_drop,Nat.add_zero]
theorem uk3 l i k:kAt (l.drop i) k=kAt l (i+k):=by unfold kAt;rw[List.getElem?_drop]
theorem uk4{l:List Tok}{i:Nat}{x:Tok}(h:l[i]?=some x):yP (l.drop i)=if x.kind=33\/x.kind=38 then yP (l.drop (i+1))+1 else 0:=by rw[xj h,yP]
theorem uiC Q l a c w(hT:TksA Q w a l)(hl:l.length<=1048576)(hP:jc l) :
  Calls Tryz.prog 63 #[.slice a l.length c] w λe w'=>e=.returned (.int .i64 (kT l:Nat))/\w'=w:=by
 obtain⟨p1,p2,X⟩:=hP;obtain⟨b,off,rfl,hc⟩:=hT.at (i:=0) (by omega);have A:Hid (∀i,i<l.length->∃x,l[i]?=some x/\w.cell? ⟨b,off+i*4,none⟩=some (.int .u8 x.kind)):=λi W=>⟨_,List.getElem?_eq_getElem W,(hc i _ (List.getElem?_eq_getElem W)).kind⟩
 obtain⟨O,aa⟩:=nm (yP l);obtain⟨R,N⟩:=nm (kT l);rw[N];unfold kT at N;rw[aa]at p1 p2 X N;rw[uhi]at p2 X;have HR:=ua N;have ab:=ua p2;have ac:=ua X;go_enter Tryz.func63,Tryz.ntmps63;go_wp2;go_loopw [3] (λu wr=>∃i:Nat,i<=O/\u=.int .i64 i/\wr=w/\i+yP (l.drop i)=O) (λu _=>l.length-(intOf u).toNat)
 case atStart=>exact⟨0,by omega,rfl,rfl,by rw[List.drop_zero,aa];omega⟩
 case round =>
  obtain⟨i,W,rfl,rfl,D⟩:=hrel;have ad:i<l.length:=by omega
  have hil':(i:Int)<l.length:=by omega
  obtain⟨x,hx,k0⟩:=A i ad;have HK:=ua (jR hx);rw[uk4 hx]at D;have s:=ua D;by_cases H:x.kind=33\/x.kind=38
  ·have t:Hid (i+1+yP (l.drop (i+1))=O):=by
    have:=s.out;rw[if_pos H]at this;show _=_;omega
   generalize x.kind=kx at *;rcases H with rfl|rfl;all_goals (
    go_wp2;go_roundw
    case rel=>exact⟨i+1,by have:=t.out;omega,by go_num,by trivial,t.out⟩
    case measure=>simp[intOf];omega)
  have y1:(x.kind==33)=false:=by simpa using λq=>H (.inl q)
  have y2:(x.kind==38)=false:=by simpa using λq=>H (.inr q)
  obtain rfl:i=O:=by
   have:=s.out;rw[if_neg H]at this;omega
  obtain⟨m,F⟩:=nm (if x.kind=94 then i+1 else i);have HI:=ua F;have T:Hid (kJ 0 (l.drop m)/\m+vX 0 (l.drop m)=i+qk (l.drop i)/\i<=m):=by
   have h2:=ab;have h3:=ac;rw[HK.out]at h2 h3;unfold qk;rw[uhi,HK.out,List.drop_drop];by_cases h:x.kind=94
   ·rw[if_pos h]at F;subst F;rw[if_pos h];exact⟨h2 h,by omega,by omega⟩
   rw[if_neg h]at F;subst F;rw[if_neg h];exact⟨h3 h,rfl,Nat.le_refl _⟩
  go_upto_if 26 with fail;go_cut [3] from 21 to 71 (λv wc=>v=.int .i64 (m:Int)/\wr=wc)
  case first =>
   by_cases h:x.kind=94
   ·have e:=HI;rw[if_pos h]at e;subst e;generalize x.kind=kx at *;subst h;go_wp2;go_meet
    case rel=>exact⟨by go_num,rfl⟩
   have e:=HI;rw[if_neg h]at e;have y3:(x.kind==94)=false:=(by simpa using h);subst e;go_wp2;go_meet
   case rel=>exact⟨rfl,rfl⟩
  case rest =>
   obtain⟨rfl,rfl⟩:=hcut;obtain⟨E,hE⟩:=nm (i+qk (l.drop i));have S:Hid ((if kAt l E=42\/kAt l E=63 then E+1 else E)=R):=by
    have:=HR;unfold unc at this;rw[uk3,hE]at this;show _=R;rw[<-this];split<;>omega
   have Z:Hid (kJ 0 (l.drop m)/\m+vX 0 (l.drop m)=E):=⟨T.1,T.2.1.trans hE⟩;have af:m<l.length:=by
    by_cases h:m<l.length
    ·exact h
    have:=T.1;rw[List.drop_of_length_le (by omega)]at this;exact this.elim
   go_wp2;go_loopw [3,4] (λY v4 w'=>∃(f:Nat) (d:Int),m<=f/\f<l.length/\Y=.int .i64 f/\v4=.int .i64 d/\w'=wr/\-(f:Int)<=d/\d<=f/\kJ d (l.drop f)/\f+vX d (l.drop f)=E) (λY _ _=>l.length-(intOf Y).toNat)
   case atStart=>exact⟨m,0,Nat.le_refl _,af,rfl,rfl,rfl,by omega,by omega,Z.1,Z.2⟩
   case round =>
    obtain⟨f,d,ai,ae,rfl,rfl,rfl,V,ah,hg,D⟩:=hrel;have hl2':(f:Int)<l.length:=(by omega);obtain⟨r,ag,P⟩:=A f ae;rw[xj ag]at hg D;have U:=ua hg;have s:=ua D;by_cases B:r.kind=40
    ·have n:yO r.kind d=d+1:=(by rw[B];rfl);by_cases j:d+1=0
     ·have hd0':yO r.kind d=0:=(by rw[n];exact j);obtain rfl:f+1=E:=(by have:=s;rw[vX,if_pos hd0']at this;exact this);have g:=S;have g:=ua g;rw[B]at P;by_cases G:f+1<l.length
      ·have hin':(f:Int)+1<l.length:=(by omega);obtain⟨y,L,k9⟩:=A (f+1) G;have I:=jR L;have e:=g;rw[I]at e;generalize y.kind=k at *;by_cases o:k=42
       ·subst o;rw[if_pos (.inl rfl)]at e;subst e;go_wp2;go_ret;exact⟨uD (by omega),rfl⟩
       by_cases p:k=63
       ·subst p;rw[if_pos (.inr rfl)]at e;subst e;go_wp2;go_ret;exact⟨uD (by omega),rfl⟩
       rw[if_neg (λq=>q.elim o p)]at e;subst e;have z1':(k==42)=false:=(by simpa using o);have z2':(k==63)=false:=(by simpa using p);go_wp2;go_ret;exact⟨uD (by omega),rfl⟩
      have hin':¬(f:Int)+1<l.length:=(by omega);have e:=g;rw[show kAt l (f+1)=0 by unfold kAt;rw[List.getElem?_eq_none (by omega)],if_neg (by omega)]at e;subst e;go_wp2;go_ret;exact⟨uD (by omega),rfl⟩
     have V:((d+1)==0)=false:=(by simpa using j);have t:Hid (f+1+vX (d+1) (l.drop (f+1))=E):=by
      have:=s.out;rw[vX,n,if_neg j]at this;show _=_;omega
     have z:Hid (kJ (d+1) (l.drop (f+1))):=by
      have:=U;rw[kJ,n]at this;exact this.resolve_left j
     have J:f+1<l.length:=by
      by_cases h:f+1<l.length
      ·exact h
      have:=z;rw[List.drop_of_length_le (by omega)]at this;exact this.elim
     rw[B]at P;go_wp2;go_roundw
     case rel=>exact⟨f+1,_,by omega,J,by go_num,rfl,by trivial,by omega,by omega,z,t⟩
     case measure=>simp[intOf];omega
    by_cases C:r.kind=41
    ·have n:yO r.kind d=d-1:=(by rw[C];rfl);by_cases j:d-1=0
     ·have hd0':yO r.kind d=0:=(by rw[n];exact j);obtain rfl:f+1=E:=(by have:=s;rw[vX,if_pos hd0']at this;exact this);have g:=S;have g:=ua g;rw[C]at P;by_cases G:f+1<l.length
      ·have hin':(f:Int)+1<l.length:=(by omega);obtain⟨y,L,k9⟩:=A (f+1) G;have I:=jR L;have e:=g;rw[I]at e;generalize y.kind=k at *;by_cases o:k=42
       ·subst o;rw[if_pos (.inl rfl)]at e;subst e;go_wp2;go_ret;exact⟨uD (by omega),rfl⟩
       by_cases p:k=63
       ·subst p;rw[if_pos (.inr rfl)]at e;subst e;go_wp2;go_ret;exact⟨uD (by omega),rfl⟩
       rw[if_neg (λq=>q.elim o p)]at e;subst e;have z1':(k==42)=false:=(by simpa using o);have z2':(k==63)=false:=(by simpa using p);go_wp2;go_ret;exact⟨uD (by omega),rfl⟩
      have hin':¬(f:Int)+1<l.length:=(by omega);have e:=g;rw[show kAt l (f+1)=0 by unfold kAt;rw[List.getElem?_eq_none (by omega)],if_neg (by omega)]at e;subst e;go_wp2;go_ret;exact⟨uD (by omega),rfl⟩
     have V:((d-1)==0)=false:=(by simpa using j);have t:Hid (f+1+vX (d-1) (l.drop (f+1))=E):=by
      have:=s.out;rw[vX,n,if_neg j]at this;show _=_;omega
     have z:Hid (kJ (d-1) (l.drop (f+1))):=by
      have:=U;rw[kJ,n]at this;exact this.resolve_left j
     have J:f+1<l.length:=by
      by_cases h:f+1<l.length
      ·exact h
      have:=z;rw[List.drop_of_length_le (by omega)]at this;exact this.elim
     rw[C]at P;go_wp2;go_roundw
     case rel=>exact⟨f+1,_,by omega,J,by go_num,rfl,by trivial,by omega,by omega,z,t⟩
     case measure=>simp[intOf];omega
    have n:yO r.kind d=d:=uL B C d;have y1:(r.kind==40)=false:=(by simpa using B);have y2:(r.kind==41)=false:=(by simpa using C);by_cases j:d=0
    ·have hd0':yO r.kind d=0:=(by rw[n];exact j);obtain rfl:f+1=E:=(by have:=s;rw[vX,if_pos hd0']at this;exact this);have g:=S;have g:=ua g;by_cases G:f+1<l.length
     ·have hin':(f:Int)+1<l.length:=(by omega);obtain⟨y,L,k9⟩:=A (f+1) G;have I:=jR L;have e:=g;rw[I]at e;generalize y.kind=k at *;by_cases o:k=42
      ·subst o;rw[if_pos (.inl rfl)]at e;subst e;go_wp2;go_ret;exact⟨uD (by omega),rfl⟩
      by_cases p:k=63
      ·subst p;rw[if_pos (.inr rfl)]at e;subst e;go_wp2;go_ret;exact⟨uD (by omega),rfl⟩
      rw[if_neg (λq=>q.elim o p)]at e;subst e;have z1':(k==42)=false:=(by simpa using o);have z2':(k==63)=false:=(by simpa using p);go_wp2;go_ret;exact⟨uD (by omega),rfl⟩
     have hin':¬(f:Int)+1<l.length:=(by omega);have e:=g;rw[show kAt l (f+1)=0 by unfold kAt;rw[List.getElem?_eq_none (by omega)],if_neg (by omega)]at e;subst e;go_wp2;go_ret;exact⟨uD (by omega),rfl⟩
    have V:((d)==0)=false:=(by simpa using j);have t:Hid (f+1+vX (d) (l.drop (f+1))=E):=by
     have:=s.out;rw[vX,n,if_neg j]at this;show _=_;omega
    have z:Hid (kJ (d) (l.drop (f+1))):=by
     have:=U;rw[kJ,n]at this;exact this.resolve_left j
    have J:f+1<l.length:=by
     by_cases h:f+1<l.length
     ·exact h
     have:=z;rw[List.drop_of_length_le (by omega)]at this;exact this.elim
    go_wp2;go_roundw
    case rel=>exact⟨f+1,_,by omega,J,by go_num,rfl,by trivial,by omega,by omega,z,t⟩
    case measure=>simp[intOf];omega
theorem Mk.from{D w w1 w' e}(k:Keep (λ_=>False) w w1)(h:Mk D w1 e w'):Mk D w e w':=by
 obtain⟨a,c,f,g,i⟩:=h;exact⟨a,c,f,g.wide (λb d=>⟨Nat.le_trans k.size d.1,d.2⟩),k.trans i⟩
structure Nms(Q:Nat->Prop)(w:World)(ra la:Option Addr)(rs ls:List (List Int)):Prop where
 r:NmsA Q w ra rs
 l:NmsA Q w la ls
 rb:∀y∈rs,BytL y
 lb:∀y∈ls,BytL y
 rl:rs.length<=1048576
 ll:ls.length<=1048576
theorem Nms.later{Q w w' b la c a}(h:Nms Q w b la c a)(t:Below w.heap.size w w'):Nms Q w' b la c a :=
 ⟨h.r.later t,h.l.later t,h.rb,h.lb,h.rl,h.ll⟩
theorem url Q t a g la c n lc d l w(v:TksA Q w a [t])(f:Nms Q w g la d l)(A:t.kind=110)(y:BytL t.nm)(G:1<=c) :
  Calls Tryz.prog 64 #[.slice a 1 c,.slice g d.length n,.slice la l.length lc] w (Mk (uq 2 (xC t.nm d 0)) w):=by
 obtain⟨b,off,rfl,z⟩:=v.at (i:=0) (by simp);have j:=z 0 t rfl;have k:=j.kind;obtain⟨C,D,B,s⟩:=j.nm;simp only[Nat.zero_mul,Nat.add_zero]at k B;rw[A]at k;have o:=ua (jQ Q Q d t.nm g C n D w f.r s f.rb y f.rl);generalize xC t.nm d 0=x at *;go_enter Tryz.func64,Tryz.ntmps64;go_wp2_with fail;refine o.mono ?_;rintro e W ⟨rfl,m,rfl⟩;go_wp2_with fail;refine(vQ 2 x (w.drewN m)).mono ?_;intro e W u;have h:Hid (Mk (uq 2 x) w e W):=u.from (uX w m)
 obtain⟨E,F,rfl,p,q⟩:=h.out;clear p q;go_wp2;go_ret;exact h.out
theorem urm Q t a s la c u lc nr r w(n:TksA Q w a [t])(q:t.kind=46)(y:1<=c) :
  Calls Tryz.prog 64 #[.slice a 1 c,.slice s nr u,.slice la r lc] w (Mk (uF [0,255]) w):=by
 obtain⟨b,off,rfl,o⟩:=n.at (i:=0) (by simp);have l:=o 0 t rfl;have g:=l.kind;simp only[Nat.zero_mul,Nat.add_zero]at g;rw[q]at g;have h:Hid (Calls Tryz.prog 43 #[.slice (some ⟨w.heap.size,0,none⟩) 2 2] (w.alloc (.cells #[.int .i64 0,.int .i64 255] 3)) (Mk (uF [0,255]) (w.alloc (.cells #[.int .i64 0,.int .i64 255] 3)))):=by
  refine ji (λ_=>True) (some ⟨w.heap.size,0,none⟩) 2 [0,255] _ (.inr ⟨w.heap.size,0,rfl,trivial,λi p=>?_⟩) (by simp);have f:=yK w (.cells #[.int .i64 0,.int .i64 255] 3) _ rfl;match i,p with
  |0,_=>exact ul f rfl
  |1,_=>exact ul f rfl
 go_enter Tryz.func64,Tryz.ntmps64;go_wp2_with fail;refine h.mono ?_;intro e W m;have d:Hid (Mk (uF [0,255]) w e W):=m.from (Keep.alloc _ _ _)
 obtain⟨v,x,rfl,j,k⟩:=d.out;clear j k;go_wp2;go_ret;exact d.out
theorem urn Q t a x la c y lc nr v w(n:TksA Q w a [t])(p:t.kind=91)(q:t.set.length<=1048576)(B:1<=c) :
  Calls Tryz.prog 64 #[.slice a 1 c,.slice x nr y,.slice la v lc] w (Mk (uF t.set) w):=by
 obtain⟨b,off,rfl,o⟩:=n.at (i:=0) (by simp);have f:=o 0 t rfl;have g:=f.kind;obtain⟨s,u,r,l⟩:=f.set;simp only[Nat.zero_mul,Nat.add_zero]at g r;rw[p]at g;have h:=ua (ji Q s u t.set w l q);go_enter Tryz.func64,Tryz.ntmps64;go_wp2_with fail;refine h.mono ?_;intro e W m;have d:Hid (Mk (uF t.set) w e W):=m;obtain⟨z,A,rfl,j,k⟩:=d.out;clear j k;go_wp2;go_ret;exact d.out
theorem uro Q f t a p la c G lc q d w(z:TksA Q w a [f,t])(g:Nms Q w p la q d)(B:f.kind=94)(C:t.kind=110)(A:BytL t.nm)(J:2<=c) :
  Calls Tryz.prog 64 #[.slice a 2 c,.slice p q.length G,.slice la d.length lc] w (Mk (uq 3 (xC t.nm d 0)) w):=by
 obtain⟨b,off,rfl,k⟩:=z.at (i:=0) (by simp);have n:=(k 0 f rfl).kind;have j:=k 1 t rfl;have o:=j.kind;obtain⟨E,F,D,v⟩:=j.nm;simp only[Nat.zero_mul,Nat.add_zero,Nat.one_mul]at n o D;rw[B]at n;rw[C]at o;have r:=ua (jQ Q Q d t.nm la E lc F w g.l v g.lb A g.ll);generalize xC t.nm d 0=x at *;go_enter Tryz.func64,Tryz.ntmps64;go_wp2_with fail;refine r.mono ?_;rintro e W ⟨rfl,m,rfl⟩;go_wp2_with fail;refine(vQ 3 x (w.drewN m)).mono ?_;intro e W y;have h:Hid (Mk (uq 3 x) w e W):=y.from (uX w m)
 obtain⟨H,I,rfl,s,u⟩:=h.out;clear s u;go_wp2;go_ret;exact h.out
theorem BodP.nil w w':BodP (New w w') w' (.slice none 0 0) []:=⟨λ_=>0,[],⟨.inl ⟨rfl,rfl,rfl⟩,λi x a=>by simp at a⟩,rfl⟩
theorem upb{ops:Array Oper}{rest:List Oper}{o:Oper}{a:Act}{j:Exit->Act->World->Prop}{w W1 W2:World}(I:o.guard=none)(s x:Operand)(J:o.op=.call { callee:=.builtin .append,args:=#[s,x],argTypes:=#[68,68] })
  {v y:Value} {D c:List OpD} (N:a.eval s=v) (P:a.eval x=y) (F:BodP (New w W1) W1 v D) (A:Keep (λ_=>False) w W1) (G:BodP (New W1 W2) W2 y c) (g:Keep (λ_=>False) W1 W2) (R:D.length+c.length<=16777216) (S:0<c.length)
  (h:∀k p i d,Hid (i=(D++c).length)->Hid (BodP (New w d) d (.slice k i p) (D++c))->Hid (Keep (λ_=>False) w d)->wpList Tryz.prog ops j rest (a.put o.dst (.slice k i p)) d):wpList Tryz.prog ops j (o::rest) a W2:=by
 obtain⟨L,l,e,t⟩:=F;obtain⟨L2,l2,f,u⟩:=G;have C:l.length=D.length:=by rw[<-t,List.length_map]
 have E:l2.length=c.length:=by rw[<-u,List.length_map]
 obtain⟨ya,yc,rfl⟩:=uk f.own;refine uaL I s x 68 68 J N P ubY (Q:=λb=>New w W1 b/\L b=0) (n:=l.length) (cs:=uW l) (m:=l2.length) (news:=uW l2) (e.own.on (λb e=>g.block b e.1.2 (λq=>q))) (udi Tryz.underlying68 f.own (uaQ _)) (by omega) ?_;intro T d z r O;obtain⟨B,c3,rfl⟩:=uk z;have H:=Bod.grow e A.size g f.sets z r O (by omega);exact h B c3 _ d (by show _=_;rw[List.length_append,C,E]) ⟨_,_,H,by rw[List.map_append,t,u]⟩ (ye (A.trans g) r (λb q=>q.1.1))
theorem uri{ops:Array Oper}{rest:List Oper}{o:Oper}{a:Act}{j:Exit->Act->World->Prop}{w W1 W2:World}(A:o.guard=none)(s x:Operand)(C:o.op=.call { callee:=.builtin .append,args:=#[s,x],argTypes:=#[68,68] })
  {v:Value} {D:List OpD} {k z:Int} {ty:TypeId} (F:a.eval s=v) (H:a.eval x=.slice (some ⟨W2.heap.size,0,none⟩) 1 1) (t:BodP (New w W1) W1 v D) (I:Keep (λ_=>False) w W1) (J:Keep (λ_=>False) W1 W2) (O:D.length+1<=16777216)
  (h:∀d f i c,Hid (i=(D++[opd k z]).length)->Hid (BodP (New w c) c (.slice d i f) (D++[opd k z]))->Hid (Keep (λ_=>False) w c)->wpList Tryz.prog ops j rest (a.put o.dst (.slice d i f)) c):wpList Tryz.prog ops j (o::rest) a (W2.alloc (.cells #[.int .i64 k,.slice none 0 0,.int .i64 z] ty)):=by
 obtain⟨L,l,g,p⟩:=t;have N:l.length=D.length:=by rw[<-p,List.length_map]
 have r:Keep (λ_=>False) W1 (W2.alloc (.cells #[.int .i64 k,.slice none 0 0,.int .i64 z] ty)):=J.trans (Keep.alloc _ _ _);refine uaL A s x 68 68 C F H ubY (Q:=λb=>New w W1 b/\L b=0) (n:=l.length) (cs:=uW l) (m:=1) (news:=uW [⟨opd k z,none,0⟩]) (g.own.on (λb g=>r.block b g.1.2 (λq=>q))) (ufs (World.alloc_heap_new W2 _)) (by omega) ?_;intro P c E B G;obtain⟨d,f,e,u,y⟩:=uft k z g I r p rfl E B G;injection e with e;subst e;exact h d f _ c rfl u y
end Go.Proofs.YtimfigongapdnaaGreat
