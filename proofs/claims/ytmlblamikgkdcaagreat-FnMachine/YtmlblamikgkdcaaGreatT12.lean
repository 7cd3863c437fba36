import Derived.Test.YtmlblamikgkdcaaGreatT09
import Derived.Test.YtmlblamikgkdcaaGreatT08
set_option linter.unusedVariables false
set_option linter.unusedSimpArgs false
set_option linter.defProp false
set_option maxHeartbeats 40000000
set_option maxRecDepth 100000
namespace Go.Proofs.YtmlblamikgkdcaaGreat
open Go.RowKit
open Go.Proofs.Tryz
section
open M (OpD ug Gr)
def uqN{j W v x i r n m cs news t p e}ty(s:vJ t e i r)(h:zB (zF j W) W v i n cs)(z:Src prog i p x m news W)(w:n+m<=16777216)(C:0<m)(A:0<i)(B:j.heap.size<=W.heap.size) :
  ∃k c' W',(Builtin.append_ #[t,p] ty #[v,x]).run prog W=.ok (Sl k (n+m) c') W'/\zB (zF j W') W' (Sl k (n+m) c') i (n+m) (cs++news)/\zA (zF j W) W W':=by
 let⟨E,w',y,o,c,D⟩:=yN ty s h z w;obtain⟨k,c',rfl⟩:=uj o;refine⟨k,c',w',y,?_,⟨c.os,c.g,c.f,c.l,c.d⟩⟩;exact o.a (Pi oM A) (λb q u=>⟨q.elim (λq=>q.1) (zP B),u⟩)
def Qi{ops:Array Oper}{rest:List Oper}{o:Oper}{a:Act}{b:Exit->Act->World->Prop}{w W':Wl}{t c:TypeId}{v u r:Vl}(e:o.guard=none)(s x:Operand)(f:o.op=.call { callee:=.builtin .append,args:=#[s,x],argTypes:=#[t,c] })(h:a.eval s=v)(i:a.eval x=u)
  (g:(Builtin.append_ #[t,c] o.type #[v,u]).run prog w=.ok r W') (k:wpList prog ops b rest (a.put o.dst r) W'):wpList prog ops b (o::rest) a w:=by
 refine wpList_plain e λK d=>?_;exact yO f h i g (d _ _ k)
def Qj(a:Wl)(z:LI)(v:Vl)(W:Wl):Prop:=zB (zF a W) W v 1 z.length (uO .u8 (lf z) z.length)
def Qj.app{i W z v}(h:Qj i z v W)x(p:z.length<=10000000)(r:i.heap.size<=W.heap.size) :
  ∃a c W',(Builtin.append_ #[22,22] 22 #[v,Sl (Sm W.heap.size 0) 1 1]).run prog (W.alloc (Oc #[Bv x] 5))=.ok (Sl a (z.length+1) c) W'/\Qj i (z++[x]) (Sl a (z.length+1) c) W'/\zA (zF i W) W W':=by
 have o:(W.alloc (Oc #[Bv x] 5)).heap.size=W.heap.size+1:=sM;let⟨a,c,W',n,k,j⟩:=uqN 22 jF (uA (h.on (λb e=>Iu W _ _ e.2)) (Q':=zF i (W.alloc (Oc #[Bv x] 5))) (λb e=>⟨e.1,by have:=e.2;omega⟩)) (qK W x) oM oM oM oM;refine⟨a,c,W',n,?_,?_⟩
 .unfold Qj;rw[zJ,Dd,<-GQ];exact k
 exact⟨j.os,j.g,j.f,by have:=j.l;omega,λb e m=>(j.d b oM (λq=>m ⟨q.1,e⟩)).trans (Iu W _ _ e)⟩
def kk(k:Int):Int:=if k=110 then 97 else k
def Im(k:zI)(sa:Oa)(sc:Nat):Vl:=.agg #[Bv (kk k.e),Iv (k.f:Nat),.string (str k.nm.length (lf k.nm)),Sl sa k.set.length sc]
abbrev Hu:Array Value:=#[Bv 0,Iv 0,.string ⟨#[]⟩,nS]
abbrev Xp(W:Wl)(b:Nat)(v0 v1 v2 v3:Vl):Wl:=(((W.setCell (Ad b 0) v0).setCell (Ad b 1) v1).setCell (Ad b 2) v2).setCell (Ad b 3) v3
def YM:Vl->Nat
 |.slice _ n _=>n
 |_=>0
section
variable {rb:Nat} {t:Tx} {r:Rv} {i j:Nat} {fr:Int} {w W W0 W':Wl} {P:Ew} {z:LI} {v:Vl}
def Qj.kb(h:Qj W0 z v W)(c:rb<W0.heap.size)(k:KB rb W W'):Qj W0 z v W' :=
 uA (zB.on h (λb a=>k.d b a.2 (λe=>oH a.1))) (λb a=>⟨a.1,Ba a.2 k.l⟩)
def xT{C:Np}(k:zA C w W){b o:Nat}{v:Vl}(h:w.heap.size<=b):zA C w (W.setCell (Ad b o) v) :=
 ⟨k.os,k.g,k.f,by rw[uh];exact k.l,λx c a=>(Bn (λe=>by have e':x=b:=e;omega)).trans (k.d x c a)⟩
def uvS(k:KB rb W0 W)(a:zA (zF W0 W) W W'):KB rb W0 W':=⟨a.os.trans k.os,a.g.trans k.g,a.f.trans k.f,zP k.l a.l,λb c e=>(a.d b (Ba c k.l) (λq=>oH q.1)).trans (k.d b c e)⟩
def JR(d:Sc rb t r i w)(h:Sc rb t r j W)(k:KB rb w W)(b c v2 v3:Vl):Sc rb t r j (Xp W w.heap.size b c v2 v3)/\KB rb w (Xp W w.heap.size b c v2 v3):=by
 have a:=Nat.ne_of_lt d.e.x.2.2;have f:KB rb w (Xp W w.heap.size b c v2 v3):=xT (xT (xT (xT k zD) zD) zD) zD;exact⟨d.to f ((((h.e.i _ _ _ a).i _ _ _ a).i _ _ _ a).i _ _ _ a) h.le,f⟩
structure Sn(rb:Nat)(t:Tx)(r:Rv)(i:Nat)(W:Wl)(P:Ew):Prop where
 ok:∀W' k j sa sc,vO t i=(k,j)->Sc rb t r j W'->Ints (zF W W') .i64 W' sa k.set.length (lf k.set)->KB rb W W'->P (Rt (Im k sa sc)) W'
 a:(vO t i).1.e≠0
def YN(a:j<=t.n){cls:Bool}{x:Int}{n:Nat}(h:Bc t j cls=(x,n+1)):j+n+1<=t.n:=by
 have:=kt t j cls a;rw[h]at this;simp at this;omega
def YO(rb:Nat)(t:Tx)(r:Rv)(w a:Wl)(R:Option (List Int×Nat))(v:Vl)(wr:Wl):Prop :=
 ∃(f j:Nat) (z:LI),t.n-j<f/\z.length<=j/\Ij t f j z=R/\Sc rb t r j wr/\Qj a z v wr/\KB rb a wr
def uhv(h:Sc rb t r i W)(hi:i<t.n)(N:t.T i=34)(ah:Sn rb t r i W P):Cs 139 #[rp rb] W P:=by
 have hn:=t.le;have ai:=h.e.x.2.2;have H:=ua h;have J:=ua ah;have p:Hid (vO t i=(match Ks t i with|none=>((⟨0,i,[],[]⟩:zI),i)|some (z,j)=>(⟨34,i,z,[]⟩,j))):=(by
  unfold vO;rw[Zn (by rw[N];unfold M.bD;omega),Zp N];cases Ks t i<;>rfl)
 let⟨R,m⟩:=nm (Ks t i);rw[m]at p;have HR:=ua m;let⟨z0,p0,l0⟩:=h.e.x;go_enter func139,ntmps139;go_wp2;have A:=ua ((Kw (zA.e _ W) 1 (Iv ((i:Int)+1))).c (Gh (λb=>b=rb) (Oc Hu 76)));have D:=ua ((H.set (j:=i+1) (x:=(i:Int)+1) sM hi).kp (Gh _ (Oc Hu 76)));have F:=ua (uW (W.setCell (Ad rb 1) (Iv ((i:Int)+1))) Hu 76 W.heap.size (by rw[uh]));generalize (W.setCell (Ad rb 1) (Iv ((i:Int)+1))).alloc (Oc Hu 76)=L at *;have s:=D.e.x.2.2;go_loopw [4] (YO rb t r W L R) (λv _=>t.n+1-YM v)
 .exact⟨t.n-i,i+1,[],oM,sM,HR,D,.inl ⟨rfl,rfl,rfl⟩,Cc⟩
 obtain⟨f,j,z,hf,hz,m,O,Q,hk⟩:=hrel;obtain⟨f,rfl⟩:∃q,f=q+1:=⟨f-1,oM⟩;obtain⟨va,vc,rfl⟩:=uj Q;have B:=ua m;have E:=ua Q;have o:=ua hk;have ag:=O.le;go_wp2_with fail;refine JQ O (λW1 k h2 w g=>?_) (λW1 k w g=>?_)
 .have HE:Hid (R=some (z,j+1)):=(by have:=B;rw[Ij,Zp ⟨k,h2⟩]at this;exact this.symm);have ad:=E.kb s g;have af:=vg _ va z.length vc (lf z) W1 (yJ ad);let⟨z1,p1,l1⟩:=(F.a ((o.c g).d W.heap.size F.x.2.2 (by show ¬W.heap.size=rb;omega))).x;have X:=ua (JR H w (A.c (o.c g)));let⟨V,S⟩:=nm (str z.length (lf z));rw[S]at af;have aa:=ua S;go_wp2;refine zL (v:=.agg #[Bv 34,Iv (i:Nat),.string V,nS]) (by simp[results,f139,go_sem, *]) rfl ?_;let⟨f1,f2⟩:=X (Bv 34) (Iv (i:Nat)) (.string V) nS;have:=J.ok _ ⟨34,i,z,[]⟩ (j+1) none 0 (by rw[p.o,HE.o]) f1 (.inl rfl) f2;rw[Im,aa.o]at this;exact this
 have C:Hid ((if (Bc t j false).2=0 then none else Ij t f (j+(Bc t j false).2) (z++[(Bc t j false).1]))=R):=(by have:=B;rw[Ij,Zn k]at this;exact this);have ab:=ua (E.kb s g);have G:=ua (o.c g);have Y:=ua k;go_wp2_with fail;refine JI false w (λ_ a b=>Y ⟨a,b⟩) (λe=>J.a (by have:=C;rw[e]at this;rw[p.o,<-this];rfl)) (λW2 x n e y u=>?_);have hl:=YN ag e;let⟨a,c,W3,hr,ae,U⟩:=(ab.kb s u).app x oM (G.c u).l;have I:=uvS (G.c u) U;have ac:Hid (YO rb t r W L R (Sl a (z.length+1) c) W3):=⟨f,j+n+1,z++[x],oM,sO,(by have:=C.o;rw[e]at this;simpa[Gy] using this),H.o.to (A.o.c I) (y.e.a (U.d _ y.e.x.2.2 (λq=>oH q.1))) y.le,ae,I⟩;have Z:=ua hr;go_wp2_with (at_builtin;refine Qi rfl _ _ rfl rfl rfl Z ?_);go_roundw;all_goals first
  |exact ac
  |(simp[YM];omega)
def utd n T:str n T=str ((List.range n).map T).length (lf ((List.range n).map T)):=by
 unfold str;congr 1;rw[Bl,List.length_range];refine Vi λk a=>?_;rw[List.mem_range]at a;simp[lf,a]
def ute t i(a:t.T i≠34)(b:t.T i≠91)(c:¬t.T i∈Cx):vO t i=if M.bD (t.T i) then (⟨110,i,(vQ t (t.n-i) i []).1,[]⟩,(vQ t (t.n-i) i []).2) else (⟨0,i,[],[]⟩,i+1):=by
 unfold vO;rw[Zn a,Zn b,Zn c]
def YP t:∀(d i:Nat) (z:LI) (f:Nat),(∀k,k<d->i+k<t.n/\yi (t.T (i+k)))->¬(i+d<t.n/\yi (t.T (i+d)))->t.n-i<=f->vQ t f i z=(z++(List.range d).map (λk=>t.T (i+k)),i+d)
 |0,i,z,f,_,h,_=>by cases f<;>simp[vQ];exact λa b=>absurd ⟨a,b⟩ h
 |d+1,i,z,f,h,h',hf=>by
  have c:i<t.n/\yi (t.T i):=h 0 oM;obtain⟨f,rfl⟩:∃q,f=q+1:=⟨f-1,by have:=c.1;omega⟩;have e:∀k,i+1+k=i+(k+1):=λk=>by omega
  rw[vQ,Zp c,YP t d (i+1) _ f (λk g=>e k▸h (k+1) oM) (e d▸h') oM];simp[List.range_succ_eq_map,e,Function.comp_def]
def Oq(rb:Nat)(w:World):Nat:=match w.cell? (Ad rb 1) with|some (.int _ x)=>x.toNat|_=>0
def Sc.f(h:Sc rb t r i W):Oq rb W=i:=by
 unfold Oq;rw[h.e.x.1 1];simp
def YQ(rb:Nat)(t:Tx)(r:Rv)(i:Nat)(a:Wl)(v:Vl)(wr:Wl):Prop :=
 ∃j:Nat,i<=j/\(∀k,i<=k->k<j->k<t.n/\yi (t.T k))/\Sc rb t r j wr/\KB rb a wr
def uk4(h:Sc rb t r i W)(D:i<t.n)(h1:t.T i≠34)(h2:t.T i≠91)(h3:¬t.T i∈Cx)(al:t.n<=r.tc)(ai:Sn rb t r i W P):Cs 141 #[rp rb] W P:=by
 have hn:=t.le;have ak:=h.e.x.2.2;have H:=ua h;have S:=ua ai;have bT:=t.h i;have N:=ua (ute t i h1 h2 h3);let⟨b,off,e,hb,hl,p⟩:=h.at D;have cT:=p i D;have hi':(i:Int)<t.n:=oM;let⟨z0,p0,l0⟩:=h.e.x;have u:=ua e;rw[e]at z0;go_enter func141,ntmps141;go_wp2_with fail;have HK:=ua (zA.a (λb=>b=rb) W (Oc Hu 76));have HS:=ua (H.kp (Gh _ (Oc Hu 76)));have O:=ua (um W Hu 76);generalize W.alloc (Oc Hu 76)=U at *;refine(xp (t.T i) bT.1 bT.2).mono ?_;rintro e W1 ⟨⟨rr,rfl,E⟩,hw⟩;subst W1;cases rr with
 |false =>
  have A:Hid (¬M.bD (t.T i)):=λq=>by simpa using E.2 q
  exact(S.o.a (by rw[N.o,Zn A.o])).elim
 |true =>
  have A:=ua (E.1 rfl);clear E;go_wp2;go_loopw [42] (YQ rb t r i U) (λ_ wr=>t.n-Oq rb wr)
  .exact⟨i,zD,(λk a b=>oM),HS.o,Cc⟩
  obtain⟨j,aa,Z,y,z⟩:=hrel;have aj:=y.le;have I:=ua Z;have w:=ua y;have Q:=ua z;let⟨G,p1,l1⟩:=y.e.x;rw[u.o]at G;clear Z y z;rcases(show(j<t.n/\yi (t.T j))\/(j<t.n/\¬yi (t.T j))\/¬j<t.n by by_cases h:j<t.n<;>by_cases C:yi (t.T j)<;>simp[h,C]) with⟨g,o⟩|⟨g,o⟩|g
  case' inl|inr.inl =>
   let⟨X,ac,l,af,ah,p⟩:=w.o.at g;obtain⟨rfl,rfl⟩:b=X/\off=ac:=(by rw[u.o]at l;simpa using l);have cT:=p j g;have Y:=t.h j;have hj':(j:Int)<t.n:=oM;have m:=ua (λd r' (h:yi (t.T j)↔r'=true)=>Ho ((jD (t.T j) (wr.drewN d) Y.1 Y.2).mono (R':=λe w'=>e=Rt (.bool r')/\w'=wr.drewN d) (λe W C=>by obtain⟨⟨q,rfl,hq⟩,rfl⟩:=C;exact⟨by rw[Ni.2 (hq.trans h)],rfl⟩)));clear p l
  case inl =>
   have m:=ua (λd=>m.o d true (iff_of_true o rfl));have J:Hid (∀n,YQ rb t r i U Bt ((wr.drewN n).setCell (Ad rb 1) (Iv ((j:Int)+1)))/\Oq rb ((wr.drewN n).setCell (Ad rb 1) (Iv ((j:Int)+1)))=j+1):=λn=>(by
    have s:=(w.o.kp (ur wr n)).set (j:=j+1) (x:=(j:Int)+1) sM g;exact⟨⟨j+1,oM,λk a b=>by rcases Nat.lt_succ_iff_lt_or_eq.1 b with q|rfl;exact I.o k a q;exact⟨g,o⟩,s,Kw (Q.o.c (jd (ur wr n))) _ _⟩,s.f⟩)
   have HT:=ua w.o.f;clear o;go_upto_region 4 with fail;go_quiet (first|(go_at_call 192;exact m.o _));go_wp2;go_roundw
   .exact(J.o _).1
   rw[(J.o _).2,HT.o];omega
  case' inr.inl =>
   have m:=ua (λd=>m.o d false (iff_of_false o sM));have L:Hid (¬(j<t.n/\yi (t.T j))):=λq=>o q.2
  case' inr.inr =>
   have L:Hid (¬(j<t.n/\yi (t.T j))):=λq=>g q.1;have hj':¬(j:Int)<t.n:=oM
  all_goals (
   clear g;go_upto_region 4 with fail;go_quiet (first|(go_at_call 192;exact m.o _));go_upto_region 6 with fail;have B:=ua (w.kp (ur wr nq));have R:=ua (Q.c (jd (ur wr nq)));generalize wr.drewN nq=V at *;let⟨G,p1,l1⟩:=B.e.x;let⟨z2,p2,l2⟩:=(O.a (R.d W.heap.size O.x.2.2 (by show ¬W.heap.size=rb;omega))).x;rw[u.o]at G;have q1:(j:Int)<=r.tc:=oM;have q2:¬r.tc=i:=oM;have ag:=vg (λ_=>True) (some ⟨b,off+i,none⟩) (j-i) (r.tc-i) (λk=>t.T (i+k)) V.drew (.inr ⟨b,off+i,rfl,trivial,λk z=>by let⟨X,ac,l,af,ah,p⟩:=(B.kp Cj).at D;rw[u.o]at l;simp at l;obtain⟨rfl,rfl⟩:=l;rw[Gy];exact p _ oM⟩);have NM:=ua (YP t (j-i) i [] (t.n-i) (λk z=>I (i+k) oM oM) (by rw[Nat.add_sub_cancel' aa];exact L) zD);have ad:=ua (JR H (B.kp Cj) (HK.c (R.c Cj)));let⟨F,ab⟩:=nm (str (j-i) (λk=>t.T (i+k)));rw[ab]at ag;have ae:=ua ab;go_region;all_goals go_wp2
   refine zL (v:=.agg #[Bv 97,Iv (i:Nat),.string F,nS]) (by simp[results,f141,go_sem, *]) rfl ?_;let⟨f1,f2⟩:=ad (Bv 97) (Iv (i:Nat)) (.string F) nS;have:=S.ok _ ⟨110,i,(List.range (j-i)).map (λk=>t.T (i+k)),[]⟩ j none 0 (by rw[N.o,Zp A.o,NM.o,Nat.add_sub_cancel' aa];rfl) f1 (.inl rfl) f2;rw[Im,show str ((List.range (j-i)).map (λk=>t.T (i+k))).length (lf ((List.range (j-i)).map (λk=>t.T (i+k))))=F from utd _ _▸ae.o]at this;exact this)
end
end
section
open M (OpD ug Gr)
def uhd:(prog.info? 110).map (λi=>(i.zero,i.size))=some (some (.agg (madeCells #[Bf] 256)),256):=rR
def JH x w(a:0<=x)(b:x<=255):(convert 5 3 (Bv x)).run prog w=.ok (Iv x) w:=by
 have e:IntKind.i64.wrap x=x:=Rr a oM;simp[convert,run_underlying underlying5,run_underlying underlying3,go_sem,e]
section
variable {rb:Nat} {t:Tx} {r:Rv} {i j:Nat} {fr:Int} {w W W0 W':Wl} {P:Ew} {MB:Nat} {m:Nat->Bool}
structure CJ(rb:Nat)(t:Tx)(r:Rv)(w:Wl)(MB j:Nat)(m:Nat->Bool)(W:Wl):Prop where
 sc:Sc rb t r j W
 g:W.rowIs MB 110 256 (λb=>.bool (m b))
 e:zG W w.heap.size Hu
 kb:KB rb w W
 mb:w.heap.size<MB
 rb:rb<w.heap.size
def CJ.to{b:Nat}(h:CJ rb t r w MB j m W)(s:Sc rb t r b W')(k:KB rb W W'):CJ rb t r w MB b m W' :=
 ⟨s,h.g.of_block (k.d MB h.g.lt (oG h.mb h.rb)),h.e.a (k.d _ h.e.x.2.2 (by have:=h.rb;show ¬w.heap.size=rb;omega)),h.kb.c k,h.mb,h.rb⟩
def XK(rb:Nat)(t:Tx)(r:Rv)(w:Wl)(a:Nat)(b:Option ((Nat->Bool)×Nat))(v:Vl)(wr:Wl):Prop :=
 ∃(f j:Nat) (m:Nat->Bool),t.n-j<f/\xy t f j m=b/\CJ rb t r w a j m wr
def XL(rb:Nat)(t:Tx)(r:Rv)(w:Wl)(a:Nat)(m:Nat->Bool)(j lo b:Nat)(v:Vl)(wr:Wl):Prop :=
 ∃k:Nat,lo<=k/\k<=b+1/\v=Iv (k:Nat)/\CJ rb t r w a j (jj m lo k) wr
def XM{cls:Bool}{x:Int}{n:Nat}(a:j<=t.n)(h:Bc t j cls=(x,n+1)):0<=x/\x<=255:=by
 have:=kt t j cls a;rw[h]at this;simp at this;omega
def ui4(h:Sc rb t r i W)(l:i<t.n)(ag:t.T i=91)(a6:Sn rb t r i W P):Cs 140 #[rp rb] W P:=by
 have hn:=t.le;have a5:=h.e.x.2.2;have H:=ua h;have NX:=ua a6;have HX:Hid (vO t i=(match Hr t i with|none=>((⟨0,i,[],[]⟩:zI),i)|some (z,j)=>(⟨91,i,[],z⟩,j))):=(by
  unfold vO;rw[Zn (by rw[ag];unfold M.bD;omega),Zn oM,Zp ag];cases Hr t i<;>rfl)
 have hz:=(zero_of_info (P:=prog) uhd).1;let⟨z0,p0,l0⟩:=h.e.x;go_enter func140,ntmps140;go_wp2_with fail;have HK:=ua ((Kw (rb:=rb) (zA.e _ W) 1 (Iv ((i:Int)+1))).c (Gh (λb=>b=rb) (Oc Hu 76)));have HS:=ua ((H.set (j:=i+1) (x:=(i:Int)+1) sM l).kp (Gh _ (Oc Hu 76)));have HZ:=ua (uW (W.setCell (Ad rb 1) (Iv ((i:Int)+1))) Hu 76 W.heap.size (by rw[uh]));generalize (W.setCell (Ad rb 1) (Iv ((i:Int)+1))).alloc (Oc Hu 76)=W0 at *;refine YG HS λW1 d I R s1 k1=>?_;have C:Mo t i=I/\Ws t i=d:=(by
  unfold Mo Ws;rcases R with⟨rfl,s,G,rfl⟩|⟨rfl,s,rfl⟩
  .rw[Ke ⟨s,G⟩];exact⟨rfl,rfl⟩
  rw[Ix s];exact⟨rfl,rfl⟩)
 have bb:i+1<=I:=by rcases R with⟨_,_,_,rfl⟩|⟨_,_,rfl⟩<;>omega
 have ae:=ua (HZ.a (k1.d W.heap.size HZ.x.2.2 (by show ¬W.heap.size=rb;omega)));have C0:=ua (show CJ rb t r W W1.heap.size I (λ_=>false) (W1.alloc (Oc (madeCells #[Bf] 256) 110)) from ⟨s1.kp zY,Kh W1 _ 256 110,ae.al _,(HK.c k1).c zY,ae.x.2.2,a5⟩);let⟨A,ai⟩:=nm (xy t (t.n+2-i) I (λ_=>false));have HC:Hid (Hr t i=Ua d A):=(by show _=_;unfold Hr;rw[C.1,C.2,ai]);have ax:=ua ai;go_wp2;generalize W1.alloc (Oc (madeCells #[Bf] 256) 110)=W2 at *;generalize W1.heap.size=y at *;have U:Hid (A=none->False):=λe=>NX.a (by rw[HX.o,HC.o,e];rfl);go_loopw [25] (XK rb t r W y A) (λ_ wr=>t.n+1-Oq rb wr)
 .exact⟨t.n+2-i,I,λ_=>false,oM,ax,C0⟩
 obtain⟨f,j,m,hf,hF,B⟩:=hrel;obtain⟨f,rfl⟩:∃q,f=q+1:=⟨f-1,oM⟩;have HF:=ua hF;have V:=ua B;have am:=B.sc.le;have au:=ua B.sc.f;go_wp2_with fail;refine JQ V.sc (λW3 s G s3 k3=>?_) (λW3 s s3 k3=>?_)
 .have w:=V.to s3 k3;have HE:Hid (vO t i=(⟨91,i,[],rg (λb=>m b != d) 256⟩,j+1)):=(by have:=HF;rw[xy,Zp ⟨s,G⟩]at this;show _=_;rw[HX.o,HC.o,<-this];rfl);let⟨af,az,an,a0⟩:=w.g;have aq:=ua az;have ay:=ua an;have ad:=ua (UI (!d) af (λb=>m b != d) W3 an (λi l=>by rw[a0 i l];show some (Value.bool (m i))=_;cases d<;>cases m i<;>rfl));have w:=ua w;let⟨L,hL⟩:=nm (rg (λb=>m b != d) 256);rw[hL]at HE ad;go_wp2_with fail;refine wp_load_mid 110 (.tmp 5) rfl y 0 rfl af.toList (.array 256 4) (λj v hv=>?_) underlying110 rfl (by rw[Ph,ay.o];exact HL) ?_
  .rw[Bp];exact uN aq (by simpa using hv)
  rw[Array.toArray_toList];go_wp2_with fail;refine ad.mono ?_;rintro e W4 ⟨sa,sc,rfl,⟨Q,a4,hP,aj⟩,a8⟩;have S:Kf W3 W4:=zA.j aj (λk hk _=>hk);let⟨z2,p2,l2⟩:=(w.e.on aj).x;have ao:=ua (JR H (w.sc.kp S) (w.kb.c (jd S)));have HO:=ua (yJ (QO L▸a4));have Y:=ua hP;have h3:=w.e.x.2.2;let⟨Z,ah⟩:=nm L.length;have aw:=ua ah;rw[ah];go_wp2;refine zL (v:=.agg #[Bv 91,Iv (i:Nat),.string ⟨#[]⟩,Sl sa Z sc]) (by simp[results,f140,go_sem, *]) rfl ?_;let⟨f1,f2⟩:=ao (Bv 91) (Iv (i:Nat)) (.string ⟨#[]⟩) (Sl sa Z sc);have:=NX.ok _ ⟨91,i,[],L⟩ (j+1) sa sc HE f1 ?_ f2
  .rw[Im,show(⟨91,i,[],L⟩:zI).set.length=Z from aw.o]at this;exact this
  have st:∀{X:Wl} {o:Nat} {v:Vl},Ints Q .i64 X sa L.length (lf L)->Ints Q .i64 (X.setCell (Ad W.heap.size o) v) sa L.length (lf L):=λh=>Ints.on h (λb C=>Bn (λe=>by have e':b=W.heap.size:=e;have:=(Y b C).1;omega));exact(st (st (st (st HO)))).g (λb C=>⟨by have:=(Y b C).1;omega,by simp only[uh];exact(Y b C).2⟩)
 have w:=ua (V.to s3 k3);have ab:Hid (xy t (f+1) j m=A/\¬(j<t.n/\t.T j=93)):=⟨HF,s⟩;go_wp2_with fail;refine JI true w.sc (λq=>by cases q) (λF=>U (by have:=ab;rw[xy,Zn this.2,F,Zp rfl]at this;exact this.1.symm)) (λW4 lo n F s4 S=>?_);have C4:=ua (w.to s4 S);let⟨l0,l1⟩:=XM am F;obtain⟨lo,rfl⟩:∃q:Nat,lo=(q:Int):=⟨lo.toNat,oM⟩;have bc:=YN am F;have ac:Hid ((if j+n+1<t.n/\t.T (j+n+1)=45 then (if (Bc t (j+n+1+1) true).2=0\/(Bc t (j+n+1+1) true).1<(lo:Int) then none else xy t f (j+n+1+1+(Bc t (j+n+1+1) true).2) (jj m lo ((Bc t (j+n+1+1) true).1.toNat+1))) else xy t f (j+n+1) (jj m lo (lo+1)))=A):=(by have:=ab;rw[xy,Zn this.2,F,Zn sM]at this;exact this.1);go_wp2_with fail;refine YG C4.sc λW5 d2 j1 R s5 k5=>?_;have E:=ua (C4.to s5 k5);have HD:=ua R;have a1:=s5.le;go_upto_if 31 with fail;go_cut [7] (λv wc=>∃(l D:Nat),v=Bv l/\l<=255/\j+n+1<=D/\CJ rb t r W y D m wc/\(if l<lo then none else xy t f D (jj m lo (l+1)))=A)
 .rcases HD.o with⟨rfl,s,G,rfl⟩|⟨rfl,s,rfl⟩
  .have J:=ua ((Zp ⟨s,G⟩).symm.trans ac);go_wp2_with fail;refine JI true E.sc (λq=>by cases q) (λO=>U (by have:=J;rw[O,Zp (.inl rfl)]at this;exact this.symm)) (λW6 l n2 O s6 k6=>?_);have p:=ua (E.to s6 k6);let⟨l2,l3⟩:=XM a1 O;obtain⟨l,rfl⟩:∃q:Nat,l=(q:Int):=⟨l.toNat,oM⟩;have N:Hid ((if l<lo then none else xy t f (j+n+1+1+n2+1) (jj m lo (l+1)))=A):=(by have:=J;rw[O]at this;show _=_;rw[<-this];by_cases q:l<lo<;>simp[q]<;>rfl);go_wp2;go_meet;exact⟨l,_,rfl,oM,oM,p,N⟩
  have J:=ua ((Zn s).symm.trans ac);go_wp2;go_meet;exact⟨lo,_,rfl,oM,oM,E,(Zn (Nq _)).trans J⟩
 obtain⟨u,D,rfl,a7,bd,B,hF⟩:=hcut;have E:=ua B;have be:=B.sc.le;have N:=ua hF;by_cases ak:u<lo
 .exact(U (by have:=N;rw[Zp ak]at this;exact this.symm)).elim
 have av:=ua ((Zn ak).symm.trans N);have hgt':¬(u:Int)<(lo:Int):=oM;have ba:=λW=>JH (lo:Int) W oM oM;have a9:=λW=>JH (u:Int) W oM oM;go_wp2;go_loopw [8] (XL rb t r W y m D lo u) (λv _=>u+1-(intOf v).toNat)
 .exact⟨lo,zD,oM,rfl,by rw[QN];exact E⟩
 obtain⟨k,a2,bf,rfl,B⟩:=hrel;have p:=ua B;by_cases bh:k<=u
 .have a3:(k:Int)<=(u:Int):=oM;have bg:(k:Int)<256:=oM;have mk:=p.g.cell (i:=k) oM;have mf:=p.g.frozen k;have aa:Hid (XL rb t r W y m D lo u (Iv ((k:Int)+1)) (wr.setCell (Ad y k) Bt)):=(by
   have hm:=p.o.mb;have hr:=p.o.rb;have k7:KB rb W (wr.setCell (Ad y k) Bt):=xT p.o.kb oM;exact⟨k+1,oM,oM,sM,⟨H.o.to k7 (p.o.sc.e.i _ _ _ oM) p.o.sc.le,((p.o.g.set k Bt).congr (λb _=>by
    have h:(if b=k then true else jj m lo k b)=jj m lo (k+1) b:=congrFun (QP m (lo:=lo) (k:=k) a2) b;rw[<-h];by_cases e:b=k<;>simp[e])),p.o.e.i _ _ _ oM,k7,hm,hr⟩⟩)
  go_wp2;go_roundw;all_goals first
   |exact aa
   |(simp[intOf];omega)
 have a3:¬(k:Int)<=(u:Int):=oM;obtain rfl:k=u+1:=oM;have ap:=ua p.sc.f;have aa:Hid (∀v,XK rb t r W y A v wr):=λv=>⟨f,D,jj m lo (u+1),oM,av,p⟩;go_wp2;go_roundw
 .exact aa _
 rw[ap.o,au.o];omega
end
end
section
open M (OpD ug Gr)
def XA(r:Rv)(k:zI)(sa:Oa)(sc:Nat):Rv:={ r with v2:=Bv (kk k.e),v3:=Iv (k.f:Nat),v4:=.string (str k.nm.length (lf k.nm)),v5:=Sl sa k.set.length sc }
def xX(t:Tx)(i:Nat):zI×Nat:=if skip t i<t.n then vO t (skip t i) else (⟨0,t.n,[],[]⟩,t.n)
abbrev Sh(W:Wl)(b:Nat)(v0 v1 v2 v3:Vl):Wl:=(((W.setCell (Ad b 2) v0).setCell (Ad b 3) v1).setCell (Ad b 4) v2).setCell (Ad b 5) v3
section
variable {rb:Nat} {t:Tx} {r:Rv} {i j K:Nat} {fr:Int} {w W W0 W':Wl} {P:Ew} {k:zI} {sa:Oa} {sc:Nat}
structure uyh(rb:Nat)(t:Tx)(r:Rv)(i:Nat)(W:Wl)(P:Ew):Prop where
 ok:∀W' k j sa sc v,xX t i=(k,j)->Sc rb t (XA r k sa sc) j W'->Ints (zF W W') .i64 W' sa k.set.length (lf k.set)->KB rb W W'->P (Rt v) W'
 a:skip t i<t.n->(xX t i).1.e≠0
def Sc.p{b off:Nat}(h:Sc rb t r i W)(e:r.ta=some (Ad b off))(c:j<t.n):W.cell? (Ad b (off+j))=some (Bv (t.T j)):=by
 let⟨f,g,a,_,_,d⟩:=h.at c;rw[e]at a;simp at a;rw[a.1,a.2];exact d j c
def JB(s:Sc rb t r j W)(l:Ints (zF w W) .i64 W sa k.set.length (lf k.set))(i:KB rb w W)(o:rb<w.heap.size){v2 v3 v4 v5:Vl}(e : #[v2,v3,v4,v5]=#[Bv (kk k.e),Iv (k.f:Nat),.string (str k.nm.length (lf k.nm)),Sl sa k.set.length sc]) :
  Sc rb t (XA r k sa sc) j (Sh W rb v2 v3 v4 v5)/\Ints (zF w (Sh W rb v2 v3 v4 v5)) .i64 (Sh W rb v2 v3 v4 v5) sa k.set.length (lf k.set)/\KB rb w (Sh W rb v2 v3 v4 v5):=by
 simp at e;obtain⟨rfl,rfl,rfl,rfl⟩:=e;have h:∀m n v2 v3,KB rb W (Sh W rb m n v2 v3):=λ_ _ _ _=>Kw (Kw (Kw (Kw (zA.e _ W) _ _) _ _) _ _) _ _;exact⟨⟨(((s.e.set 2 _).set 3 _).set 4 _).set 5 _,s.s.y (h _ _ _ _),s.le⟩,(l.on (λb a=>(h _ _ _ _).d b a.2 (λe=>oH a.1))).g (λb a=>⟨a.1,by simp only[uh];exact a.2⟩),i.c (h _ _ _ _)⟩
def us0 t{p}(h:t.T p∈Cx):vO t p=(⟨t.T p,p,[],[]⟩,p+1)/\kk (t.T p)=t.T p:=by
 have a:=h;simp only[Cx,Dm,Nk,or_false]at h;refine⟨?_,by unfold kk;rw[Zn oM]⟩;unfold vO;rw[Zn (λq=>by unfold M.bD at q;omega),Zn oM,Zn oM,Zp a]
def JC(rb:Nat)(t:Tx)(r:Rv)(i:Nat)(w:Wl)(v:Vl)(wr:Wl):Prop:=∃j:Nat,skip t j=skip t i/\Sc rb t r j wr/\KB rb w wr
def XC(rb:Nat)(t:Tx)(r:Rv)(j:Nat)(w:Wl)(v:Vl)(wr:Wl):Prop:=∃k:Nat,jY t k=jY t j/\Sc rb t r k wr/\KB rb w wr
def XD(h:Sc rb t r i W)(am:t.n<=r.tc)(an:uyh rb t r i W P):Cs 87 #[rp rb] W P:=by
 have hn:=t.le;have aa:=h.e.x.2.2;have H:=ua h;have I:=ua an;go_enter func87,ntmps87;go_wp2;go_step3;go_wp2;go_step3;go_wp2;go_loopw [12] (JC rb t r i W) (λ_ wr=>t.n-Oq rb wr)
 .exact⟨i,rfl,H,Cc⟩
 obtain⟨j,al,u,hK⟩:=hrel;have ac:=ua ((RD t j).symm.trans al);have R:=ua u.f;have Y:=ua u;have KJ:=ua hK;have hj:=u.le;let⟨z,K,l⟩:=u.e.x;by_cases d:j<t.n
 .have hlt':(j:Int)<t.n:=oM;let⟨b,off,e,hb,hl,ht⟩:=Y.at d;have A:=ua e;rw[e]at z;go_upto_region 0 with fail;go_quiet (fail);have S:=ua (Y.kp (ur wr nq));have K1:=ua (KJ.c (jd (ur wr nq)));generalize wr.drewN nq=Z at *;let⟨z,K,l⟩:=S.e.x;have cT:=S.p A d;rw[A.o]at z;go_upto_region 1 with fail;go_quiet (fail);have m:=ua (S.kp (ur Z nq));have y:=ua (K1.c (jd (ur Z nq)));generalize Z.drewN nq=V at *;let⟨z,K,l⟩:=m.e.x;have S0:=ua ((Zp d).symm.trans ac);let⟨c,L⟩:=nm (t.T j);have G:=ua L;rw[L]at S0 ⊢;by_cases O:Qb c
  .have C:=ua (m.set (j:=j+1) (x:=(j:Int)+1) sM d);have o:Hid (∀v,JC rb t r i W v (V.setCell (Ad rb 1) (Iv ((j:Int)+1)))):=λv=>⟨j+1,(Zp O).symm.trans S0,C,Kw y _ _⟩;rcases O with rfl|rfl|rfl|rfl;all_goals (
    go_wp2;go_roundw
    .exact o _
    rw[C.o.f,R.o];omega)
  replace S0:=ua ((Zn O).symm.trans S0);by_cases ae:c=35
  .subst ae;have S2:=ua ((Zp rfl).symm.trans S0);have ai:=ua (Zo t d G);go_wp2;go_loopw [52] (XC rb t r j W) (λ_ wr=>t.n-Oq rb wr)
   .exact⟨j,rfl,m,y⟩
   obtain⟨k,ak,u,hK⟩:=hrel;have ab:=ua ((GF t k).symm.trans ak);have SK:=ua u;have KK:=ua hK;have ah:=ua u.f;have ao:=u.le;have ad:Hid (¬(k<t.n/\t.T k≠10)->∀v V,Kf wr V->JC rb t r i W v V/\t.n-Oq rb V<t.n-j):=λh v V kv=>(by
    have e:=(Zn h).symm.trans ab;have s:=SK.kp kv;exact⟨⟨k,e▸S2.o,s,KK.o.c (jd kv)⟩,by rw[s.f];have:=ai.o;omega⟩)
   let⟨z,K,l⟩:=u.e.x;rw[A.o]at z;by_cases N:k<t.n
   .have hkl':(k:Int)<t.n:=oM;go_upto_region 10 with fail;go_quiet (fail);have kq:=ua (ur wr nq);have U:=ua (SK.kp (ur wr nq));generalize wr.drewN nq=V6 at *;let⟨z,K,l⟩:=U.e.x;have cT:=U.p A N;rw[A.o]at z;go_upto_region 11 with fail;go_quiet (fail);have af:=ua (kq.c (ur V6 nq));have S8:=ua (U.kp (ur V6 nq));generalize V6.drewN nq=V8 at *;let⟨z,K,l⟩:=S8.e.x;by_cases J:t.T k=10
    .have o:=ua (λv=>ad (λq=>q.2 J) v _ af);rw[J];go_wp2;go_roundw
     .exact(o _).1
     rw[R.o];exact(o Bt).2
    have h10':(t.T k==10)=false:=(by simpa using J);have C:=ua (S8.set (j:=k+1) (x:=(k:Int)+1) sM N);have o:Hid (∀v,XC rb t r j W v (V8.setCell (Ad rb 1) (Iv ((k:Int)+1)))):=λv=>⟨k+1,(Zp ⟨N,J⟩).symm.trans ab,C,Kw (KK.c (jd af)) _ _⟩;go_wp2;go_roundw
    .exact o _
    rw[C.o.f,ah.o];omega
   have hkl':¬(k:Int)<t.n:=oM;have o:=ua (λn v=>ad (λq=>N q.1) v _ (ur wr n));go_upto_region 10 with fail;go_quiet (fail);go_wp2;go_roundw
   .exact(o _ _).1
   rw[R.o];exact(o _ Bt).2
  have B:=ua (((Zn ae).symm.trans S0).symm);have aj:Hid (Sn rb t r j V λe W'=>∃k j sa sc,e=Rt (Im k sa sc)/\Sc rb t r j W'/\KB rb V W'/\(∀v2 v3 v4 v5 v,#[v2,v3,v4,v5]=#[Bv (kk k.e),Iv (k.f:Nat),.string (str k.nm.length (lf k.nm)),Sl sa k.set.length sc]->P (Rt v) (Sh W' rb v2 v3 v4 v5))):=(by
   have ha:xX t i=vO t j:=(by unfold xX;rw[B.o,Zp d]);refine⟨λW' k j' sa sc e s hi kb=>⟨k,j',sa,sc,rfl,s,kb,λv2 v3 v4 v5 v he=>?_⟩,λh0=>I.a (by rw[B.o];exact d) (by rw[ha];exact h0)⟩;let⟨D,a2,E⟩:=JB (sc:=sc) s (hi.g (λb hb=>⟨zP y.l hb.1,hb.2⟩)) (y.c kb) aa he;exact I.ok _ k j' sa sc v (ha.trans e) D a2 E)
  by_cases F:c∈Cx
  .have ag:Hid (∀v,P (Rt v) ((Sh V rb (Bv c) (Iv (j:Nat)) (.string ⟨#[]⟩) nS).setCell (Ad rb 1) (Iv ((j:Int)+1)))):=λv=>(by
    let⟨h1,h3⟩:=us0 t (p:=j) (by rw[G.o];exact F);rw[G.o]at h1 h3;let⟨D,a2,E⟩:=JB (k:=⟨c,j,[],[]⟩) (sa:=none) (sc:=0) (w:=W) m (.inl rfl) y aa (v2:=Bv c) (v3:=Iv (j:Nat)) (v4:=.string ⟨#[]⟩) (v5:=nS) (by show _=#[Bv (kk c),_,_,_];rw[h3];rfl);exact I.ok _ ⟨c,j,[],[]⟩ (j+1) none 0 v (by unfold xX;rw[B.o,Zp d,h1]) (D.set sM d) (.inl rfl) (Kw E _ _))
   simp only[Cx,Dm,Nk,or_false]at F;rcases F with rfl|rfl|rfl|rfl|rfl|rfl|rfl|rfl|rfl|rfl|rfl;all_goals (
    go_wp2;rw[Exit.noGoto_ret];exact zL (results_none rfl _ _ _) rfl (ag _))
  have X:Hid (if c=34 then ∀P,Sn rb t r j V P->Cs 139 #[rp rb] V P else if c=91 then ∀P,Sn rb t r j V P->Cs 140 #[rp rb] V P else ∀P,Sn rb t r j V P->Cs 141 #[rp rb] V P):=(by
   have L:=G;show ite _ _ _;split
   .exact λP q=>uhv m d oM q
   split
   .exact λP q=>ui4 m d oM q
   exact λP q=>uk4 m d oM oM (by rw[L];exact F) am q)
  simp only[Cx,Dm,Nk,or_false,Qb]at F O;obtain⟨x1,x2,x3,x4,x5,x6,x7,x8,x9,ap,aq,au,av,aw,ax,ay⟩:(c==32)=false/\(c==9)=false/\(c==13)=false/\(c==10)=false/\(c==35)=false/\(c==61)=false/\(c==59)=false/\(c==47)=false/\(c==33)=false/\(c==38)=false/\(c==42)=false/\(c==63)=false/\(c==40)=false/\(c==41)=false/\(c==46)=false/\(c==94)=false:=by simp only[Ra];omega
  rcases(show c=34\/c=91\/(c≠34/\c≠91) by omega) with rfl|rfl|⟨y1,y2⟩
  case' inr.inr =>
   have X:=ua ((Zn y2).symm▸(Zn y1).symm▸X.o);have az:(c==34)=false:=(by simpa using y1);have a0:(c==91)=false:=by simpa using y2
  all_goals (
   go_wp2_with fail;refine(X _ aj).mono ?_;rintro e W4 ⟨k,j4,sa,sc,rfl,s4,k4,Q⟩;have Q:=ua Q;let⟨z,K,l⟩:=s4.e.x;unfold Im;go_wp2;rw[Exit.noGoto_ret];exact zL (results_none rfl _ _ _) rfl (Q _ _ _ _ _ rfl))
 obtain rfl:j=t.n:=oM;have B:=ua (((Zn d).symm.trans ac).symm);go_upto_region 0 with fail;go_quiet (fail);have m:=ua (Y.kp (ur wr nq));have y:=ua (KJ.c (jd (ur wr nq)));generalize wr.drewN nq=V at *;let⟨z,K,l⟩:=m.e.x;go_wp2;let⟨D,a2,E⟩:=JB (k:=⟨0,t.n,[],[]⟩) (sa:=none) (sc:=0) (w:=W) m (.inl rfl) y aa (v2:=Bv 0) (v3:=Iv (t.n:Nat)) (v4:=.string ⟨#[]⟩) (v5:=nS) rfl;exact zL (results_none rfl _ _ _) rfl <| I.ok _ ⟨0,t.n,[],[]⟩ t.n none 0 _ (by unfold xX;rw[B.o,Zn (Nq _)]) D (.inl rfl) E
end
end
section
open M (OpD ug Gr)
abbrev Qk:Vl:=.iface 309 (.agg #[])
abbrev Out(X:Np)(w:Wl):Nat->Prop:=λb=>b<w.heap.size/\¬X b
def En(X:Np)(w:Wl)(z:LI)(v:Vl):Prop:=∃a c,v=.iface 234 (.agg #[Sl a z.length c])/\Ints (Out X w) .i64 w a z.length (lf z)
def Di(X:Np)(w:Wl):List Int->Value->Prop
 |[],v=>v=Qk
 |[x],v=>En X w (vB x) v
 |y::x::r,v=>∃u a,v=.iface 240 (.agg #[u,a])/\Di X w (x::r) u/\En X w (vB y) a
def Gc(X:Np)(w:Wl):PE->Value->Prop
 |.ref t,v=>v=.iface 236 (.agg #[.string (str t.nm.length (lf t.nm))])
 |.thr _ t,v=>v=.iface 238 (.agg #[.string (str t.nm.length (lf t.nm))])
 |.str t,v=>Di X w t.nm.reverse v
 |.cls t,v=>En X w t.set v
 |.dot _,v=>En X w [0,255] v
 |.grp _ e _,v=>Gc X w e v
 |.star e _,v=>∃u,v=.iface 243 (.agg #[u])/\Gc X w e u
 |.opt e _,v=>∃u,v=.iface 241 (.agg #[u,Qk])/\Gc X w e u
 |.not _ e,v=>∃u,v=.iface 244 (.agg #[u])/\Gc X w e u
 |.amp _ e,v=>∃u,v=.iface 244 (.agg #[.iface 244 (.agg #[u])])/\Gc X w e u
 |.emp,v=>v=Qk
 |.seq a b,v=>∃u c,v=.iface 240 (.agg #[u,c])/\Gc X w a u/\Gc X w b c
 |.alt a _ b,v=>∃u c,v=.iface 241 (.agg #[u,c])/\Gc X w a u/\Gc X w b c
structure Cu(X:Np)(w:Wl)(X':Np)(w':Wl):Prop where
 kp:zA X w w'
 nw:∀b,X' b->X b\/w.heap.size<=b
section
variable {X X' X2:Np} {w w' w2:Wl} {z:LI} {v u:Vl}
def Cu.c(h:Cu X w X' w')(k:Cu X' w' X2 w2):Cu X w X2 w2 :=
 ⟨⟨k.kp.os.trans h.kp.os,k.kp.g.trans h.kp.g,k.kp.f.trans h.kp.f,zP h.kp.l k.kp.l,λb a e=>(k.kp.d b (Ba a h.kp.l) (λq=>(h.nw b q).elim e (λq=>oM))).trans (h.kp.d b a e)⟩,
  λb q=>(k.nw b q).elim (h.nw b) (λq=>.inr (zP h.kp.l q))⟩
def Cu.d(k:zA X w w'):Cu X w X w':=⟨k,λ_ q=>.inl q⟩
def yu{e:IntKind}{a:Oa}{n:Nat}{T:Nat->Int}(h:Ints (Out X w) e w a n T)(m:Cu X w X' w'):Ints (Out X' w') e w' a n T :=
 (h.on (λb c=>m.kp.d b c.1 c.2)).g (λb c=>⟨Ba c.1 m.kp.l,λq=>(m.nw b q).elim c.2 (λq=>oH c.1)⟩)
def En.mv(h:En X w z v)(m:Cu X w X' w'):En X' w' z v:=let⟨a,c,e,h⟩:=h;⟨a,c,e,yu h m⟩
def Di.mv:∀(z:LI) {v:Vl},Di X w z v->Cu X w X' w'->Di X' w' z v
 |[],v,h,_=>h
 |[x],v,h,m=>En.mv h m
 |y::x::r,v,⟨u,u',e,h1,h2⟩,m=>⟨u,u',e,Di.mv (x::r) h1 m,h2.mv m⟩
def Gc.mv{e:PE}(h:Gc X w e v)(m:Cu X w X' w'):Gc X' w' e v:=by
 induction e generalizing v with
 |ref|thr|emp=>exact h
 |str=>exact Di.mv _ h m
 |cls|dot=>exact En.mv h m
 |grp _ _ _ a=>exact a h
 |star _ _ a|opt _ _ a|not _ _ a|amp _ _ a=>exact let⟨u,e,h⟩:=h;⟨u,e,a h⟩
 |seq _ _ i1 i2|alt _ _ _ i1 i2=>exact let⟨u,u',e,h1,h2⟩:=h;⟨u,u',e,i1 h1,i2 h2⟩
def Di.a:∀{z:LI} {v:Vl},Di X w z v->∃ty u,v=.iface ty u
 |[],v,h=>⟨_,_,h⟩
 |[x],v,⟨_,_,e,_⟩=>⟨_,_,e⟩
 |y::x::r,v,⟨_,_,e,_⟩=>⟨_,_,e⟩
def Gc.a{e:PE}(h:Gc X w e v):∃ty u,v=.iface ty u:=by
 induction e with
 |ref|thr|emp=>exact⟨_,_,h⟩
 |str=>exact Di.a h
 |cls|dot=>exact let⟨_,_,e,_⟩:=h;⟨_,_,e⟩
 |grp _ _ _ b=>exact b h
 |star|opt|not|amp=>exact let⟨_,e,_⟩:=h;⟨_,_,e⟩
 |seq|alt=>exact let⟨_,_,e,_⟩:=h;⟨_,_,e⟩
end
section
variable {X:Np} {w:Wl} {P:Ew} {x y:Int} {z:LI}
def YR(a:∀b,X b->b<w.heap.size):Ints (Out X (w.alloc (Oc #[Iv x,Iv y] 3))) .i64 (w.alloc (Oc #[Iv x,Iv y] 3)) (Sm w.heap.size 0) 2 (lf [x,y]) :=
 .inr ⟨w.heap.size,0,rfl,⟨sM,λq=>Nq _ (a _ q)⟩,λj c=>by
  rw[Bp,(um w #[Iv x,Iv y] 3).x.1 j];match j,c with
  |0,_=>rfl
  |1,_=>rfl⟩
def YS(g:∀b,X b->b<w.heap.size)(e:0<=x)(f:x<=255)(h:∀ty u w',En X w' (vB x) (.iface ty u)->Kf w w'->P (Rt (.iface ty u)) w'):Cs 249 #[Bv x] w P:=by
 have i:=λW=>JH x W e f;have d:=ua h;have c:=ua g;go_enter func249,ntmps249;go_wp2;exact d _ _ _ ⟨_,2,rfl,YR c⟩ zY
def So(c:Int):Bool:=decide (c=33\/c=38\/c=94\/c=46\/c=40\/c=97\/c=34\/c=91)
def YT c w:Cs 213 #[Bv c] w λe w'=>e=Rt (.bool (So c))/\w'=w:=by
 by_cases h:c=33\/c=38\/c=94\/c=46\/c=40\/c=97\/c=34\/c=91
 .rw[show So c=true from Ke h];rcases h with rfl|rfl|rfl|rfl|rfl|rfl|rfl|rfl;all_goals (
   go_enter func213,ntmps213;go_wp2;go_ret;exact⟨rfl,rfl⟩)
 rw[show So c=false from Ix h];obtain⟨a,b,d,f,g,i,j,k⟩:(c==33)=false/\(c==38)=false/\(c==94)=false/\(c==46)=false/\(c==40)=false/\(c==97)=false/\(c==34)=false/\(c==91)=false:=by simp only[Ra];omega
 go_enter func213,ntmps213;go_wp2;go_ret;exact⟨rfl,rfl⟩
def Di.d{w':Wl}{l:LI}{v u:Vl}(a:l≠[])(h:Di X w' l v)(b:En X w' (vB y) u):Di X w' (y::l) (.iface 240 (.agg #[v,u])):=by
 cases l with
 |nil=>exact absurd rfl a
 |cons x r=>exact⟨v,u,rfl,h,b⟩
def uvT z(d:zW z)i y(h:i<(str z.length (lf z)).size)(b:z[i]?=some y):(((str z.length (lf z))[i]'h).toNat:Int)=y:=by
 have e:=(Bz.1 b).1;have f:=d y (Cn b);have a:(str z.length (lf z)).data.toList[i]?=some ((str z.length (lf z))[i]'h):=by
  rw[Array.getElem?_toList];exact Qv (by simpa using h)
 rw[xV]at a;unfold Ek at a;rw[Ev,List.getElem?_range e]at a;injection a with a;rw[<-a];have c:lf z i=y:=by unfold lf;rw[El,b];rfl
 show(((UInt8.ofNat (lf z i).toNat).toNat:Nat):Int)=y;rw[c];simp;omega
def JS(X:Np)(z:LI)(w:Wl)(v u:Vl)(wr:Wl):Prop:=∃i:Nat,1<=i/\i<=z.length/\u=Iv (i:Nat)/\Di X wr (z.take i).reverse v/\Kf w wr
def uhx(O:∀b,X b->b<w.heap.size)(n:zW z)(Q:z.length<=1000000)(U:∀ty u w',Di X w' z.reverse (.iface ty u)->Kf w w'->P (Rt (.iface ty u)) w') :
  Cs 247 #[.string (str z.length (lf z))] w P:=by
 have m:=ua U;have v:=ua O;cases z with
 |nil =>
  show Cs 247 #[.string ⟨#[]⟩] w _;go_enter func247,ntmps247;go_wp2;exact m _ _ _ rfl Cc
 |cons x r =>
  let⟨z,p⟩:=nm (x::r);have j:=ua p.symm;rw[p]at n Q m ⊢;have S:0<z.length:=by rw[<-p];simp
  have s:=ua n;have t:=ua (uvT z n);have ad:=qo z.length (lf z);have ac:((str z.length (lf z)).toList==([]:List UInt8))=false:=by
   rw[Ra];intro q;have:=Bj List.length q;rw[Xv,Ek,Bl,List.length_range,Iw]at this;omega
  generalize str z.length (lf z)=g at *;go_enter func247,ntmps247;go_wp2_with fail;rw[show((g[0]' oM).toNat:Int)=x from t.o 0 x _ (by rw[j.o];rfl)];have C:=s x (by rw[j.o];simp);refine YS v C.1 C.2 λty u W1 V T=>?_;have H:Hid (JS X z w (.iface ty u) (Iv 1) W1):=⟨1,zD,S,rfl,by rw[j.o];exact V,T⟩;go_wp2;go_loopw [3,4] (JS X z w) (λ_ u _=>z.length-(intOf u).toNat)
  .exact H
  obtain⟨i,aa,ab,rfl,B,N⟩:=hrel;obtain⟨Z,x3,rfl⟩:=B.a;have A:=ua B;have k:=ua N;by_cases E:i<z.length
  .have hlt':(i:Int)<g.size:=oM;have R:i<g.size:=oM;obtain⟨y,o⟩:∃y,z[i]?=some y:=⟨_,Bb E⟩;have J:=ua (t i y R o);have D:=s y (Cn o);have I:Hid ((z.take (i+1)).reverse=y::(z.take i).reverse):=(by show _=_;rw[Jl,o];simp);have G:Hid ((z.take i).reverse≠[]):=λq=>(by have:=Bj List.length q;rw[List.length_reverse,Fw,Iw]at this;omega);go_wp2_with fail;rw[J.o];refine YS (X:=X) (λb q=>Ba (v b q) k.l) D.1 D.2 λY u2 W2 W F=>?_;have L:Hid (JS X z w (.iface 240 (.agg #[.iface Z x3,.iface Y u2])) (Iv ((i:Int)+1)) W2):=⟨i+1,oM,E,sM,by rw[I.o];exact Di.d G (Di.mv _ A (Cu.d (F.h (λ_ q=>q.elim)))) W,k.c F⟩;go_wp2;go_roundw;all_goals first
    |exact L
    |(simp[intOf];omega)
  have hlt':¬(i:Int)<g.size:=oM;have f:=A;rw[Kg oM]at f;have f:=ua f;go_wp2;exact m _ _ _ f k
end
end
open M (OpD ug Gr)
def PE.d(e:PE):∀l,e.ok l->∀t∈e.tk,t.e≠59:=by
 induction e with
 |ref t=>intro l h x f;have:=Bu.1 f;subst this;have h:x.e=110:=h;omega
 |thr c t=>intro l h x f;obtain⟨k,j⟩:=h;simp[PE.tk]at f;rcases f with rfl|rfl<;>omega
 |str t=>intro l h x f;have:=Bu.1 f;subst this;have h:x.e=34:=h;omega
 |cls t=>intro l h x f;have:=Bu.1 f;subst this;have h:x.e=91:=h;omega
 |dot t=>intro l h x f;have:=Bu.1 f;subst this;have h:x.e=46:=h;omega
 |grp o e c i=>intro l h x f;obtain⟨k,j,g⟩:=h;simp[PE.tk]at f;rcases f with rfl|f|rfl<;>first|omega|exact i 5 g x f
 |star e t i=>intro l h x f;obtain⟨k,j,g⟩:=h;simp[PE.tk]at f;rcases f with f|rfl<;>first|omega|exact i 0 g x f
 |opt e t i=>intro l h x f;obtain⟨k,j,g⟩:=h;simp[PE.tk]at f;rcases f with f|rfl<;>first|omega|exact i 0 g x f
 |not t e i=>intro l h x f;obtain⟨k,j,g⟩:=h;simp[PE.tk]at f;rcases f with rfl|f<;>first|omega|exact i 2 g x f
 |amp t e i=>intro l h x f;obtain⟨k,j,g⟩:=h;simp[PE.tk]at f;rcases f with rfl|f<;>first|omega|exact i 2 g x f
 |emp=>intro l h x f;cases f
 |seq a b m n=>intro l h x f;obtain⟨k,j,g⟩:=h;simp[PE.tk]at f;rcases f with f|f;exact m 3 j x f;exact n 2 g x f
 |alt a t b m n=>intro l h x f;obtain⟨k,j,g,p⟩:=h;simp[PE.tk]at f;rcases f with f|rfl|f;exact m 5 g x f;omega;exact n 4 p x f
def Rl.k(q:Rl):Nat:=if q.a.isSome then 1 else 0
def Rl.c(q:Rl):q.tk.length=q.k+2+q.e.tk.length+1:=by
 unfold Rl.tk Rl.k;cases q.a<;>simp<;>omega
def Rl.d(q:Rl):q.tk[q.k]?=some q.f:=by
 unfold Rl.tk Rl.k;cases q.a<;>simp
def Rl.h(q:Rl):(q.tk.drop (q.k+2)).take q.e.tk.length=q.e.tk:=by
 unfold Rl.tk Rl.k;cases q.a<;>simp
def Rl.b(q:Rl):q.tk[q.k+2+q.e.tk.length]?=some q.g:=by
 unfold Rl.tk Rl.k;cases q.a
 .simp[show 2+q.e.tk.length=q.e.tk.length+1+1 by omega]
 simp[show 1+2+q.e.tk.length=q.e.tk.length+1+1+1 by omega]
def Rl.i{q:Rl}(h:q.ok){m:Nat}{x:zI}(b:m<q.k+2+q.e.tk.length)(j:q.tk[m]?=some x):x.e≠59:=by
 obtain⟨l,p,r,n,s⟩:=h;have e:q.tk=(q.a.toList++(q.f::q.eq::q.e.tk))++[q.g]:=by simp[Rl.tk]
 rw[e,Es (by unfold Rl.k at b;cases o:q.a<;>simp[o]at b ⊢<;>omega)]at j;have c:=Cn j;simp at c;rcases c with h|rfl|rfl|h
 .have:=l x h;omega
 .omega
 .omega
 exact q.e.d 5 n x h
def Wy(Q:Np)(w:Wl)(b o:Nat)(q:Rl):Prop :=
 w.cell? (Ad b o)=some (.bool q.a.isSome)/\Hc Q w b (o+1) q.f/\∃a c,w.cell? (Ad b (o+5))=some (Sl a q.e.tk.length c)/\Bh Q w a q.e.tk/\q.e.tk.length<=c
def Gs(Q:Np)(w:Wl)(a:Oa)(c:List Rl):Prop:=c = []\/∃b off,a=some (Ad b off)/\∀i q,c[i]?=some q->Wy Q w b (off+i*6) q
def Wy.h{Q w w' b o q}(h:Wy Q w b o q)(t:Bw w w'):Wy Q w' b o q:=by
 obtain⟨d,e,a,c,f,g,i⟩:=h;exact⟨ue d t,e.h t,a,c,ue f t,g.h t,i⟩
def Gs.h{Q w w' a c}(h:Gs Q w a c)(t:Bw w w'):Gs Q w' a c:=by
 rcases h with h|⟨b,off,e,h⟩
 .exact .inl h
 exact .inr ⟨b,off,e,λi q d=>(h i q d).h t⟩
def Gs.at{Q w a c}(h:Gs Q w a c){i}(d:i<c.length):∃b off,a=some (Ad b off)/\∀i q,c[i]?=some q->Wy Q w b (off+i*6) q:=by
 rcases h with h|h
 .subst h;simp at d
 exact h
structure RC where
 q:Rl
 na:Option Addr
 nc:Nat
 sa:Option Addr
 sc:Nat
 ba:Option Addr
 bc:Nat
def Hd(x:RC):List Value:=[.bool x.q.a.isSome,Bv x.q.f.e,Iv x.q.f.f,Sl x.na x.q.f.nm.length x.nc,Sl x.sa x.q.f.set.length x.sc,Sl x.ba x.q.e.tk.length x.bc]
def SH x:(Hd x).length=6:=rfl
def usb:(prog.info? 142).map (λi=>(i.zero,i.size,i.bytes))=some (some (.agg #[Bf,Bv 0,Iv 0,nS,nS,nS]),6,96):=rR
def SI:vJ 137 142 6 96:=⟨underlying137,⟨_,usb,rfl⟩,oM⟩
def SJ(Q:Np)(w wr:Wl)(P:Np)(x:RC):Prop:=Ints Q .u8 w x.na x.q.f.nm.length (lf x.q.f.nm)/\Ints Q .i64 w x.sa x.q.f.set.length (lf x.q.f.set)/\Bh Q w x.ba x.q.e.tk/\x.q.e.tk.length<=x.bc
abbrev ux1(Q:Np)(w wr:Wl)(v:Vl)(L:List RC)(P:Np):Prop:=Ue Hd 6 (SJ Q w) w wr v L P
abbrev Jx(Q:Np)(w wr:Wl)(v:Vl)(L:List RC):Prop:=Ii Hd 6 (SJ Q w) w wr v L
def Jx.z0{Q w wr a n c L}(h:Jx Q w wr (Sl a n c) L):Gs Q wr a (L.map (·.q)):=by
 obtain⟨P,h⟩:=h;rcases h.k with⟨_,q,_⟩|⟨g,cap,e,C,v,z,m,A⟩
 .exact .inl (by rw[Ic q];rfl)
 injection e with e1 e2 e3;subst e1;refine .inr ⟨g,0,rfl,λi x l=>?_⟩;rw[Ev]at l;obtain⟨y,f,rfl⟩:=Hn.1 l;have B:=(Bz.1 f).1;have p:=xL Hd 6 SH L;have b:∀j,j<6->wr.cell? (Ad g (0+i*6+j))=(Hd y)[j]?:=λj o=>by
  rw[Bp,m (i*6+j) (by rw[p];omega),yA Hd 6 SH L i j y f o]
 let⟨r,s,t,u⟩:=h.nm y (Cn f);have d:=h.y.q;exact⟨b 0 oM,⟨b 1 oM,b 2 oM,⟨y.na,y.nc,b 3 oM,r.h d⟩,⟨y.sa,y.sc,b 4 oM,s.h d⟩⟩,y.ba,y.bc,b 5 oM,t.h d,u⟩
def SK(W:Wl)(x:RC){ty}:Src prog 6 137 (Sl (Sm W.heap.size 0) 1 1) 1 (Hd x) (W.alloc (Oc #[.bool x.q.a.isSome,Bv x.q.f.e,Iv x.q.f.f,Sl x.na x.q.f.nm.length x.nc,Sl x.sa x.q.f.set.length x.sc,Sl x.ba x.q.e.tk.length x.bc] ty)):=qg underlying137 rfl rfl rfl
def GN(Q:Np)(w:Wl)(b:List Rl)(v u:Vl)(wr:Wl):Prop :=
 ∃(a rest:List Rl) (L:List RC) (d:Nat),b=a++rest/\L.map (·.q)=a/\d=(a.flatMap Rl.tk).length/\u=Iv (d:Nat)/\Jx Q w wr v L
def usc(Q:Np)(b:List Rl)(w:Wl)(e:Ending)(w':Wl):Prop:=∃a c,e=Rt (Sl a b.length c)/\Gs Q w' a b/\Kf w w'
def uiD Q p(aq:∀q∈p,q.ok)a c n w(hn:n=(p.flatMap Rl.tk).length)(hT:Bh Q w a (p.flatMap Rl.tk))(hl:n<=1048576)(hc:n<=c) :
  Cs 71 #[Sl a n c] w (usc Q p w):=by
 have HT:Hid (Bh Q w a (p.flatMap Rl.tk)):=hT;have O:Hid (n=(p.flatMap Rl.tk).length):=hn;have aw:Hid (∀q∈p,q.ok):=aq;clear hT hn aq;go_enter func71,ntmps71;go_wp2;go_loopw [3,4] (GN Q w p) (λ_ u _=>n-(intOf u).toNat)
 .exact⟨[],p,[],0,rfl,rfl,rfl,rfl,Ii.nil Cc⟩
 obtain⟨r,rest,L,d,F,T,V,rfl,hR⟩:=hrel;obtain⟨G,H,rfl⟩:=hR.a;cases rest with
 |nil =>
  have ax:d=n:=by rw[V,O.o,F,Dl]
  have a7:¬(d:Int)<(n:Int):=oM;clear O V ax;have HR:Hid (Jx Q w wr (Sl G L.length H) L):=hR;have HL:Hid (L.map (·.q)=p):=by rw[F,Dl];exact T
  clear F T hR;go_wp2;go_ret;have hl:L.length=p.length:=by rw[<-HL.o,Bl]
  let⟨P,U⟩:=HR.o;exact⟨G,H,by rw[hl];rfl,by rw[<-HL.o];exact HR.o.z0,U.y⟩
 |cons q rest =>
  have ad:=aw q (by rw[F];simp);have ak:p.flatMap Rl.tk=r.flatMap Rl.tk++(q.tk++rest.flatMap Rl.tk):=by rw[F];simp
  have ay:n=d+(q.tk.length+(rest.flatMap Rl.tk).length):=by rw[O.o,ak,zJ,zJ,V]
  have a3:=q.c;have az:d<n:=oM;obtain⟨b,off,rfl,ao⟩:=HT.at (i:=d) (by rw[<-O.o];exact az);have ap:∀m,m<q.tk.length->(p.flatMap Rl.tk)[d+m]?=q.tk[m]?:=λm hm=>by
   rw[ak,Fb oM,show d+m-(r.flatMap Rl.tk).length=m by omega,Es hm]
  have aa:∀m x,q.tk[m]?=some x->Hc Q w b (off+(d+m)*4) x:=λm x o=>ao (d+m) x ((ap m (Bz.1 o).1).trans o);have an:Bh Q w (Sm b (off+(d+q.k+2)*4)) q.e.tk:=by
   have:=Bh.a (l:=q.tk) (off:=off+d*4) (λm x o=>by rw[show off+d*4+m*4=off+(d+m)*4 by omega];exact aa m x o) (q.k+2) q.e.tk.length;rw[q.h]at this;rwa [show off+(d+q.k+2)*4=off+d*4+(q.k+2)*4 by omega]
  obtain⟨P,U⟩:=hR;have Z:=U.y.q;have B:Hid (ux1 Q w wr (Sl G L.length H) L P):=U;have ab:∀m x,q.tk[m]?=some x->Hc Q wr b (off+(d+m)*4) x:=λm x o=>(aa m x o).h Z;obtain⟨E,hE⟩:∃E,E=q.k+2+q.e.tk.length:=⟨_,rfl⟩;have a5:d+E<n:=oM;have ah:Hid (wr.cell? (Ad b (off+(d+E)*4))=some (Bv 59)):=by
   have:=(ab E q.g (by rw[hE];exact q.b)).e;rw[ad.2.2.2.2]at this;exact this
  have ae:Hid (∀m,m<E->∃kk,wr.cell? (Ad b (off+(d+m)*4))=some (Bv kk)/\kk≠59):=λm hm=>by
   obtain⟨x,o⟩:∃x,q.tk[m]?=some x:=⟨_,Bb oM⟩;exact⟨x.e,(ab m x o).e,Rl.i ad oM o⟩
  have R:=ua (aa q.k q.f q.d);have s:=ua an;have HF:Hid (∃k0,wr.cell? (Ad b (off+d*4))=some (Bv k0)/\(k0==94)=q.a.isSome):=by
   obtain⟨x,o⟩:∃x,q.tk[0]?=some x:=⟨_,Bb oM⟩;refine⟨x.e,(ab 0 x o).e,?_⟩;unfold Rl.tk at o;obtain⟨h1,h2,_⟩:=ad;cases hc:q.a with
   |none=>rw[hc]at o;simp at o;subst o;simp[h2]
   |some c=>rw[hc]at o;simp at o;subst o;simp[h1 c hc]
  have HQ:Hid (p=r++q::rest/\L.map (·.q)=r/\d=(r.flatMap Rl.tk).length):=⟨F,T,V⟩;have a4:L.length<=1048576:=by
   have h1:L.length=r.length:=(by rw[<-T,Bl]);have h2:∀l:List Rl,l.length<=(l.flatMap Rl.tk).length:=λl=>by
    induction l with
    |nil=>simp
    |cons x l ih=>have:=x.c;simp only[Eu,zJ,Db];omega
   have:=h2 r;omega
  clear F T V ak ap aa an ab U ao O ad ay a3;have hlt':(d:Int)<n:=oM;go_wp2;go_loopw [5] (λvj w2=>∃m,m<=E/\vj=Iv ((d+m:Nat):Int)/\wr=w2) (λvj _=>n-(intOf vj).toNat)
  .exact⟨0,oM,rfl,rfl⟩
  obtain⟨m,hm,rfl,rfl⟩:=hrel;by_cases a1:m=E
  .subst a1;have ks:=ah.o;let⟨k0,kf,ac⟩:=HF.o;clear HF ae ah;have hE':=hE;have A:Hid (m=q.k+2+q.e.tk.length):=hE;clear hE hE';let⟨na,nc,n2,au⟩:=R.nm;let⟨sa,sc,n3,av⟩:=R.set;have I:Hid (Ints Q .u8 w na q.f.nm.length (lf q.f.nm)/\Ints Q .i64 w sa q.f.set.length (lf q.f.set)):=⟨au,av⟩;have t:=ue R.e Z;have r1:=ue R.f Z;have r2:=ue n2 Z;have r3:=ue n3 Z;clear n2 n3 au av R;cases N:q.a with
   |none =>
    have X:q.k=0:=(by unfold Rl.k;rw[N];rfl);rw[N]at ac;rw[X]at t r1 r2 r3 s A;simp only[Dy,Option.isSome_none]at t r1 r2 r3 ac s A;obtain rfl:q.f.e=k0:=(by rw[kf]at t;injection t with t;injection t with _ t;exact t.symm);clear kf;have al:m=2+q.e.tk.length:=oH A.o;obtain⟨j,S⟩:∃j,j=d+2:=⟨_,rfl⟩;rw[<-S]at s;obtain⟨J,D⟩:∃J,J=d+m:=⟨_,rfl⟩;have z9:d<=J:=oM;have z2:j<=J:=oM;have z3:(J:Int)<=(c:Int):=oM;have z4:¬c=j:=oM;have z5:q.e.tk.length<=c-j:=oM;have z6:J-j=q.e.tk.length:=oM;have z7:IntKind.i64.wrap ((d:Int)+2)=(j:Int):=(by rw[show(d:Int)+2=(j:Int) by omega];exact Rr oM oM);have z8:0<=(d:Int):=oM;have af:Hid (Ints Q .u8 w na q.f.nm.length (lf q.f.nm)/\Ints Q .i64 w sa q.f.set.length (lf q.f.set)/\Bh Q w (Sm b (off+j*4)) q.e.tk/\q.e.tk.length<=c-j):=⟨I.1,I.2,s,z5⟩;have C:Hid (p=(r++[q])++rest/\(L++[(⟨q,na,nc,sa,sc,some (Ad b (off+j*4)),c-j⟩:RC)]).map (·.q)=r++[q]/\J+1=((r++[q]).flatMap Rl.tk).length):=by
     obtain⟨e1,e2,e3⟩:=HQ;refine⟨by rw[e1];simp,by rw[Dt,e2];rfl,?_⟩;rw[List.flatMap_append,zJ,<-e3];simp only[Eu,List.flatMap_nil,Dl,q.c];omega
    have ai:Hid (∀W1 v5 z,Kf wr W1->zB (λb=>P b\/W1.heap.size<=b) z v5 6 (L.length+1) (L.flatMap Hd++Hd ⟨q,na,nc,sa,sc,some (Ad b (off+j*4)),c-j⟩)->zT P W1 z->Jx Q w z v5 (L++[⟨q,na,nc,sa,sc,some (Ad b (off+j*4)),c-j⟩])):=λW1 v5 z k ho hg=>B.o.d oM k ho hg (λ_ q=>q) af.o;have ag:Hid (zB P (wr.drew.alloc (Oc #[Bf,Bv q.f.e,Iv q.f.f,Sl na q.f.nm.length nc,Sl sa q.f.set.length sc,Sl (Sm b (off+j*4)) q.e.tk.length (c-j)] 142)) (Sl G L.length H) 6 L.length (L.flatMap Hd)):=B.o.k.on (λb hb=>((zA.i (λ_=>False) wr).c zY).d b (B.o.a b hb).2 (λq=>q));have aj:Hid (Src prog 6 137 (Sl (Sm wr.drew.heap.size 0) 1 1) 1 (Hd ⟨q,na,nc,sa,sc,some (Ad b (off+j*4)),c-j⟩) (wr.drew.alloc (Oc #[Bf,Bv q.f.e,Iv q.f.f,Sl na q.f.nm.length nc,Sl sa q.f.set.length sc,Sl (Sm b (off+j*4)) q.e.tk.length (c-j)] 142))):=by
     have:=SK wr.drew ⟨q,na,nc,sa,sc,some (Ad b (off+j*4)),c-j⟩ (ty:=142);simp only[N,Option.isSome_none]at this;exact this
    have a2:(J:Int)<(n:Int):=oM;rw[<-D]at ks;rw[<-D];have a0:(d:Int)<(n:Int):=oM;clear al B I s HQ A S D;go_upto_region 10 with fail;go_region_law
     (refine jN rfl (.tmp 29) (.tmp 41) 137 137 rfl (v:=Sl G L.length H) (y:=Sl (Sm wr.drew.heap.size 0) 1 1) (by simp[Act.eval]) (by simp[Act.eval]) SI (Q:=P) (n:=L.length) (cs:=L.flatMap Hd) (m:=1) (news:=Hd ⟨q,na,nc,sa,sc,some (Ad b (off+j*4)),c-j⟩) ag aj oM ?_;intro v4 W4 Y W am;have HE:Hid (GN Q w p v4 (Iv ((J+1:Nat):Int)) W4):=⟨_,_,_,_,C.1,C.2.1,C.2.2,rfl,ai _ _ _ ((zA.i (λ_=>False) wr).c zY) Y W⟩;clear Y W am)
    all_goals (
     go_wp2;go_roundw;all_goals first
      |exact HE
      |(simp[intOf];omega)
      |omega)
   |some cc =>
    have X:q.k=1:=(by unfold Rl.k;rw[N];rfl);rw[N]at ac;rw[X]at t r1 r2 r3 s A;simp only[Option.isSome_some]at t r1 r2 r3 ac s A;have al:m=3+q.e.tk.length:=oH A.o;obtain⟨j,S⟩:∃j,j=d+1+2:=⟨_,rfl⟩;rw[<-S]at s;obtain⟨J,D⟩:∃J,J=d+m:=⟨_,rfl⟩;have z9:d<=J:=oM;have z2:j<=J:=oM;have z3:(J:Int)<=(c:Int):=oM;have z4:¬c=j:=oM;have z5:q.e.tk.length<=c-j:=oM;have z6:J-j=q.e.tk.length:=oM;have z7:IntKind.i64.wrap (((d:Int)+1)+2)=(j:Int):=(by rw[show((d:Int)+1)+2=(j:Int) by omega];exact Rr oM oM);have z8:0<=((d:Int)+1):=oM;have af:Hid (Ints Q .u8 w na q.f.nm.length (lf q.f.nm)/\Ints Q .i64 w sa q.f.set.length (lf q.f.set)/\Bh Q w (Sm b (off+j*4)) q.e.tk/\q.e.tk.length<=c-j):=⟨I.1,I.2,s,z5⟩;have C:Hid (p=(r++[q])++rest/\(L++[(⟨q,na,nc,sa,sc,some (Ad b (off+j*4)),c-j⟩:RC)]).map (·.q)=r++[q]/\J+1=((r++[q]).flatMap Rl.tk).length):=by
     obtain⟨e1,e2,e3⟩:=HQ;refine⟨by rw[e1];simp,by rw[Dt,e2];rfl,?_⟩;rw[List.flatMap_append,zJ,<-e3];simp only[Eu,List.flatMap_nil,Dl,q.c];omega
    have ai:Hid (∀W1 v5 z,Kf wr W1->zB (λb=>P b\/W1.heap.size<=b) z v5 6 (L.length+1) (L.flatMap Hd++Hd ⟨q,na,nc,sa,sc,some (Ad b (off+j*4)),c-j⟩)->zT P W1 z->Jx Q w z v5 (L++[⟨q,na,nc,sa,sc,some (Ad b (off+j*4)),c-j⟩])):=λW1 v5 z k ho hg=>B.o.d oM k ho hg (λ_ q=>q) af.o;have ag:Hid (zB P (wr.drew.alloc (Oc #[Bt,Bv q.f.e,Iv q.f.f,Sl na q.f.nm.length nc,Sl sa q.f.set.length sc,Sl (Sm b (off+j*4)) q.e.tk.length (c-j)] 142)) (Sl G L.length H) 6 L.length (L.flatMap Hd)):=B.o.k.on (λb hb=>((zA.i (λ_=>False) wr).c zY).d b (B.o.a b hb).2 (λq=>q));have aj:Hid (Src prog 6 137 (Sl (Sm wr.drew.heap.size 0) 1 1) 1 (Hd ⟨q,na,nc,sa,sc,some (Ad b (off+j*4)),c-j⟩) (wr.drew.alloc (Oc #[Bt,Bv q.f.e,Iv q.f.f,Sl na q.f.nm.length nc,Sl sa q.f.set.length sc,Sl (Sm b (off+j*4)) q.e.tk.length (c-j)] 142))):=by
     have:=SK wr.drew ⟨q,na,nc,sa,sc,some (Ad b (off+j*4)),c-j⟩ (ty:=142);simp only[N,Option.isSome_some]at this;exact this
    have a2:(J:Int)<(n:Int):=oM;rw[<-D]at ks;rw[<-D];have a0:((d:Int)+1)<(n:Int):=oM;clear al B I s HQ A S D;go_upto_region 10 with fail;go_region_law
     (refine jN rfl (.tmp 29) (.tmp 41) 137 137 rfl (v:=Sl G L.length H) (y:=Sl (Sm wr.drew.heap.size 0) 1 1) (by simp[Act.eval]) (by simp[Act.eval]) SI (Q:=P) (n:=L.length) (cs:=L.flatMap Hd) (m:=1) (news:=Hd ⟨q,na,nc,sa,sc,some (Ad b (off+j*4)),c-j⟩) ag aj oM ?_;intro v4 W4 Y W am;have HE:Hid (GN Q w p v4 (Iv ((J+1:Nat):Int)) W4):=⟨_,_,_,_,C.1,C.2.1,C.2.2,rfl,ai _ _ _ ((zA.i (λ_=>False) wr).c zY) Y W⟩;clear Y W am)
    all_goals (
     go_wp2;go_roundw;all_goals first
      |exact HE
      |(simp[intOf];omega)
      |omega)
  let⟨kk,ks,X⟩:=ae m oM;have hk':(kk != 59)=true:=by simpa using X
  have a6:((d+m:Nat):Int)<n:=oM;clear HF ae ah;go_wp2;go_roundw
  .exact⟨m+1,oM,by go_num,by trivial⟩
  simp[intOf];omega
def Fv:List Int->List Int->Prop
 |_,[]=>False
 |[],_::_=>True
 |x::r,y::s=>x<y\/(x=y/\Fv r s)
def Zr{a}:¬Fv a []:=by cases a<;>exact λh=>h
def xF:∀a,¬Fv a a
 |[]=>λh=>h
 |x::r=>λh=>h.elim (λq=>oM) (λq=>xF r q.2)
def Wv:∀{a b c},Fv a b->Fv b c->Fv a c
 |_,[],_,h,_=>absurd h (Zr)
 |_,_::_,[],_,h=>absurd h (Zr)
 |[],_::_,_::_,_,_=>trivial
 |x::a,y::b,z::c,h,k=>by
  rcases h with h|⟨h,d⟩<;>rcases k with k|⟨k,e⟩
  .exact .inl oM
  .exact .inl oM
  .exact .inl oM
  exact .inr ⟨oM,Wv d e⟩
def Zs:∀a b,Fv a b\/a=b\/Fv b a
 |[],[]=>.inr (.inl rfl)
 |[],_::_=>.inl trivial
 |_::_,[]=>.inr (.inr trivial)
 |x::a,y::b=>by
  rcases Int.lt_trichotomy x y with h|h|h
  .exact .inl (.inl h)
  .rcases Zs a b with k|k|k
   .exact .inl (.inr ⟨h,k⟩)
   .exact .inr (.inl (by rw[h,k]))
   exact .inr (.inr (.inr ⟨h.symm,k⟩))
  exact .inr (.inr (.inl h))
def GK:∀a b,M.LessT a.length (lf a) b.length (lf b)↔Fv a b
 |a,[]=>by
  constructor
  .rintro⟨k,_,f,g,h|h⟩
   .simp at h
   simp at h
  exact λh=>aB h (Zr)
 |[],y::s=>⟨λ_=>trivial,λ_=>⟨0,λi l=>oM,zK,zK,.inr ⟨rfl,sM⟩⟩⟩
 |x::r,y::s=>by
  constructor
  .rintro⟨k,e,f,g,h⟩;cases k with
   |zero =>
    rcases h with⟨_,_,h⟩|⟨h,_⟩
    .exact .inl h
    simp at h
   |succ k =>
    refine .inr ⟨e 0 oM,(GK r s).1 ⟨k,λi l=>e (i+1) oM,by simpa using f,by simpa using g,?_⟩⟩;rcases h with⟨c,d,j⟩|⟨c,d⟩
    .exact .inl ⟨by simpa using c,by simpa using d,j⟩
    exact .inr ⟨by simpa using c,by simpa using d⟩
  rintro (h|⟨h,m⟩)
  .exact⟨0,λi l=>oM,zK,zK,.inl ⟨sM,sM,h⟩⟩
  let⟨k,e,f,g,n⟩:=(GK r s).2 m;refine⟨k+1,λi l=>?_,by simpa using f,by simpa using g,?_⟩
  .cases i with
   |zero=>exact h
   |succ i=>exact e i oM
  rcases n with⟨c,d,j⟩|⟨c,d⟩
  .exact .inl ⟨by simpa using c,by simpa using d,j⟩
  exact .inr ⟨by simpa using c,by simpa using d⟩
def Fg:List LI->Prop
 |[]=>True
 |x::r=>(∀y∈r,Fv x y)/\Fg r
def Fg.d:∀{l:List LI} {z:LI},Fg l->(∀y∈l,Fv y z)->Fg (l++[z])
 |[],z,_,_=>⟨(λy a=>by cases a),trivial⟩
 |x::r,z,h,k=>⟨λy a=>by
   rcases By.1 a with q|q
   .exact h.1 y q
   rw[Bu.1 q];exact k x sM,Fg.d h.2 (λy a=>k y (by simp[a]))⟩
def Fg.c:∀{l m:List LI},Fg l->(∀z∈l,z∈m)->l.length<=m.length
 |[],m,_,_=>zK
 |x::l,m,h,k=>by
  have a:=k x sM;have:=Fg.c (m:=m.erase x) h.2 (λz b=>(List.mem_erase_of_ne (λq=>by subst q;exact xF z (h.1 z b))).2 (k z (by simp[b])));rw[List.length_erase_of_mem a]at this;have:0<m.length:=List.length_pos_of_mem a;simp only[Db];omega
def uK:List zI->List LI
 |[]=>[]
 |[_]=>[]
 |x::y::r=>(if x.e=94 then [y.nm] else [])++uK (y::r)
def yW(q:Rl):List LI:=(if q.a.isSome then [q.f.nm] else [])++uK q.e.tk
def uH(a:List Rl):List LI:=a.flatMap yW
def z8{l:List zI}{j:Nat}{x y:zI}(a:l[j]?=some x)(b:l[j+1]?=some y):uK (l.drop j)=(if x.e=94 then [y.nm] else [])++uK (l.drop (j+1)):=by
 rw[yd a,yd b,uK]
def ukn{l:List zI}{j:Nat}(h:l.length<=j+1):uK (l.drop j) = []:=by
 by_cases a:j<l.length
 .have e:l.drop j = [l[j]]:=by rw[Tb a,Ki h]
  rw[e,uK]
 rw[Ki oM,uK]
def RL:∀{l:List zI} {z:LI},z∈uK l->∃t∈l,t.nm=z
 |[],_,h=>by cases h
 |[_],_,h=>by cases h
 |x::y::r,z,h=>by
  rw[uK]at h;rcases By.1 h with q|q
  .split at q
   .exact⟨y,sM,(Bu.1 q).symm⟩
   cases q
  let⟨t,a,b⟩:=RL q;exact⟨t,Ta _ a,b⟩
def RM:∀l:List zI,(uK l).length<=l.length
 |[]=>zD
 |[_]=>zK
 |x::y::r=>by
  have:=RM (y::r);rw[uK,zJ];split<;>simp at this ⊢<;>omega
structure NC where
 z:List Int
 a:Option Addr
 c:Nat
def Qa(x:NC):List Value:=[Sl x.a x.z.length x.c]
def QX x:(Qa x).length=1:=rfl
def zn:(prog.info? 22).map (λi=>(i.zero,i.size,i.bytes))=some (some nS,1,24):=rR
def zo:vJ 143 22 1 24:=⟨underlying143,⟨_,zn,rfl⟩,oM⟩
def QY(wr:Wl)(P:Np)(x:NC):Prop:=Ints (λb=>b<wr.heap.size/\¬P b) .u8 wr x.a x.z.length (lf x.z)
abbrev Zk(w wr:Wl)(v:Vl)(L:List NC)(P:Np):Prop:=Ue Qa 1 QY w wr v L P
abbrev Ju(w wr:Wl)(v:Vl)(L:List NC):Prop:=Ii Qa 1 QY w wr v L
def jX{w wr a n c L P}(h:Zk w wr (Sl a n c) L P){i x}(d:L[i]?=some x):∃b,a=some (Ad b 0)/\P b/\wr.cell? (Ad b i)=some (Sl x.a x.z.length x.c):=by
 have r:=(Bz.1 d).1;rcases h.k with⟨_,q,_⟩|⟨g,cap,e,l,m,o,f,p⟩
 .omega
 injection e with e1 e2 e3;subst e1;have j:=xL Qa 1 QX L;refine⟨g,rfl,l,?_⟩;have:=yA Qa 1 QX L i 0 x d oM;rw[Pb,Dy]at this;rw[f i (by rw[j];omega),this];rfl
def Ju.z0{w wr a n c L}(h:Ju w wr (Sl a n c) L):Ff (λb=>b<wr.heap.size) wr a (L.map (·.z)):=by
 obtain⟨P,h⟩:=h;cases L with
 |nil=>exact .inl rfl
 |cons y r =>
  obtain⟨g,rfl,_,_⟩:=jX h (i:=0) (x:=y) rfl;refine .inr ⟨g,0,rfl,λi z f=>?_⟩;rw[Ev]at f;obtain⟨x,d,rfl⟩:=Hn.1 f;let⟨j,e,m,l⟩:=jX h d;obtain rfl:g=j:=by injection e with e;injection e
  exact⟨x.a,x.c,by rw[Bp];exact l,(h.nm x (Cn d)).g (λb k=>k.1)⟩
def zp(W:Wl)(x:NC){ty}:Src prog 1 143 (Sl (Sm W.heap.size 0) 1 1) 1 (Qa x) (W.alloc (Oc #[Sl x.a x.z.length x.c] ty)):=qg underlying143 rfl rfl rfl
def Ints.of{Q k w a n S}(h:Ints Q k w a n S):Ints (λb=>b<w.heap.size) k w a n S:=by
 rcases h with h|⟨b,off,e,d,h⟩
 .exact .inl h
 by_cases c:n=0
 .exact .inl c
 exact .inr ⟨b,off,e,ud (h 0 oM),h⟩
def FY{Q w wr W v L a n S}(k:Kf wr W)(e:Ints Q .u8 w a n S)P(h:Zk w wr v L P):Ints (λb=>b<W.heap.size/\¬P b) .u8 W a n S :=
 (e.of.h (h.y.c k).q).g (λb d=>⟨Ba d (h.y.c k).l,λq=>by have:=(h.a b q).1;omega⟩)
def zq{w wr W v L a n S}(d:Ints (zF wr W) .u8 W a n S)P(h:Zk w wr v L P):Ints (λb=>b<W.heap.size/\¬P b) .u8 W a n S :=
 d.g (λb c=>⟨c.2,λq=>by have:=(h.a b q).2;have:=c.1;omega⟩)
def QZ:Vl->Nat
 |.slice _ n _=>n
 |_=>0
def Zl{ops:Array Oper}{rest:List Oper}{o:Oper}{a:Act}{u:Exit->Act->World->Prop}{w wr W:Wl}(G:o.guard=none)(s x:Operand)(H:o.op=.call { callee:=.builtin .append,args:=#[s,x],argTypes:=#[143,143] })
  {v:Vl} {L:List NC} {y:NC} {ty:TypeId} (I:a.eval s=v) (J:a.eval x=Sl (Sm W.heap.size 0) 1 1) (F:Ju w wr v L) (k:Kf wr W) (N:∀P,Zk w wr v L P->Ints (λb=>b<W.heap.size/\¬P b) .u8 W y.a y.z.length (lf y.z)) (R:L.length<=1048576)
  (h:∀A c' i,Hid (Ju w i (Sl A (L.length+1) c') (L++[y]))->wpList prog ops u rest (a.put o.dst (Sl A (L.length+1) c')) i):wpList prog ops u (o::rest) a (W.alloc (Oc #[Sl y.a y.z.length y.c] ty)):=by
 obtain⟨P,j⟩:=F;have t:Kf wr (W.alloc (Oc #[Sl y.a y.z.length y.c] ty)):=k.c zY;refine jM G s x 143 143 H I J zo (Q:=P) (n:=L.length) (cs:=L.flatMap Qa) (m:=1) (news:=Qa y) (j.k.on (λb f=>t.d b (j.a b f).2 (λq=>q))) (zp W y) oM ?_;intro v5 i B p S;obtain⟨D,E,rfl⟩:=uj B;have T:=k.l;have O:=p.l;rw[Ck]at O;refine h D E i (j.d oM t B p (λz C=>?_) ?_)
 .exact(Ints.on C (λb f=>(p.d b (by have:=f.1;rw[Ck];omega) f.2).trans (t.d b f.1 (λe=>e)))).g (λb f=>⟨by have:=f.1;omega,λr=>r.1.elim f.2 (λr=>by have:=f.1;rw[Ck]at r;omega)⟩)
 exact((N P j).on (λb f=>(p.d b (by have:=f.1;rw[Ck];omega) f.2).trans (Jo f.1))).g (λb f=>⟨by have:=f.1;omega,λr=>r.1.elim f.2 (λr=>by have:=f.1;rw[Ck]at r;omega)⟩)
def RA{W d v3 z ty}(f:zB (λb=>b=W.heap.size\/(W.alloc (Oc #[] ty)).heap.size<=b) d v3 1 (0+z.length) ([]++uO .u8 (lf z) z.length))(i:zT (λb=>b=W.heap.size) (W.alloc (Oc #[] ty)) d):∃a c,v3=Sl a z.length c/\Ints (zF W d) .u8 d a z.length (lf z)/\Kf W d:=by
 rw[Bp,Hm]at f;obtain⟨k,c3,rfl⟩:=uj f;have p:W.heap.size+1<=d.heap.size:=by have:=i.l;simpa using this
 have n:=yQ zY i (λb q=>by rw[q];exact zD);refine⟨k,c3,rfl,?_,n⟩;by_cases j:z.length=0
 .exact .inl j
 have m:=yJ f;rcases m with q|⟨g,off,e,o,h⟩
 .exact aB q j
 refine .inr ⟨g,off,e,⟨?_,ud (h 0 oM)⟩,h⟩;rcases o with q|q
 .omega
 have q:W.heap.size+1<=g:=by simpa using q
 omega
def zr{ops:Array Oper}{rest:List Oper}{o:Oper}{a:Act}{e:Exit->Act->World->Prop}{Q:Np}{W:Wl}(l:o.guard=none)(s x:Operand)(t:o.op=.call { callee:=.builtin .append,args:=#[s,x],argTypes:=#[22,22] })
  {ya:Oa} {yc:Nat} {z:LI} {ty:TypeId} (v:a.eval s=Sl (Sm W.heap.size 0) 0 0) (w:a.eval x=Sl ya z.length yc) (k:Ints Q .u8 W ya z.length (lf z)) (y:z.length<=1048576)
  (h:∀f c' c,Hid (Ints (zF W c) .u8 c f z.length (lf z))->Hid (Kf W c)->wpList prog ops e rest (a.put o.dst (Sl f z.length c')) c):wpList prog ops e (o::rest) a (W.alloc (Oc #[] ty)):=by
 refine jM l s x 22 22 t v w jF (Q:=λb=>b=W.heap.size) (n:=0) (cs:=[]) (m:=z.length) (news:=uO .u8 (lf z) z.length) (.inr ⟨W.heap.size,0,rfl,rfl,rfl,zD,(λj g=>by simp at g),(λj g=>oM)⟩) (Ints.d underlying22 (k.h (zO W))) oM ?_;intro v3 c u p A;obtain⟨i,c3,rfl,q,r⟩:=RA u p;exact h i c3 c q r
def Zm{Q Q':Np}{V}{x y:NC}{r:Bool}(k:Ints Q .u8 V x.a x.z.length (lf x.z))(l:Ints Q' .u8 V y.a y.z.length (lf y.z))(i:zW x.z)(f:zW y.z)(m:r=true↔Fv x.z y.z)(d:Nat) :
  Cs 115 #[Sl x.a x.z.length x.c,Sl y.a y.z.length y.c] (V.drewN d) λe w'=>e=Rt (.bool r)/\w'=V.drewN d :=
 (KW (λ_=>True) x.a y.a x.z.length x.c y.z.length y.c (lf x.z) (lf y.z) _ ((k.h (Be (zH V) d)).g (λ_ _=>trivial)) ((l.h (Be (zH V) d)).g (λ_ _=>trivial)) i.h f.h).mono (λe W h=>by
  obtain⟨⟨b,rfl,j⟩,rfl⟩:=h;rw[GK]at j;obtain rfl:b=r:=by
   cases r<;>cases b<;>simp_all
  exact⟨rfl,rfl⟩)
def zs(w:Wl)(b:List Rl)(v u:Vl)(wr:Wl):Prop :=
 ∃(a rest:List Rl) (L:List NC),b=a++rest/\u=Iv (a.length:Nat)/\L.map (·.z)=uH a/\Ju w wr v L
def zu(w:Wl)(l:List zI)(R:List LI)(v u:Vl)(wr:Wl):Prop :=
 ∃(j:Nat) (L:List NC),1<=j/\j<=l.length+1/\u=Iv (j:Nat)/\L.map (·.z)++uK (l.drop (j-1))=R/\Ju w wr v L
def FZ:∀a:List Rl,(uH a).length<=(a.flatMap Rl.tk).length
 |[]=>zD
 |q::a=>by
  have b:=FZ a;have d:=RM q.e.tk;have f:=q.c;have g:(yW q).length<=q.tk.length:=by
   unfold yW;rw[zJ];split<;>simp<;>omega
  simp only[uH,Eu,zJ]at b ⊢;omega
def Fg.b:∀{l:List LI} {x:LI},Fg (l++[x])->∀y∈l,Fv y x
 |[],x,_,y,hy=>by cases hy
 |u::l,x,h,y,hy=>by
  rcases Dm.1 hy with rfl|q
  .exact h.1 x sM
  exact Fg.b h.2 y q
def Jd(a:List LI)(z:LI):Prop:=∀y,a.getLast? = some y->Fv y z
def zw{a z}(h:Fg a)(f:Jd a z):∀y∈a,Fv y z:=by
 intro y d;rcases List.eq_nil_or_concat a with e|⟨l,x,e⟩
 .subst e;cases d
 subst e;rw[List.concat_eq_append]at *;have c:=f x sM;rcases By.1 d with q|q
 .exact Wv (h.b y q) c
 rw[Bu.1 q];exact c
structure Eh(all out:List LI):Prop where
 r:Fg out
 a:∀z∈out,z∈all
 i:∀z∈all,z ∉ out->∀y∈out,Fv y z
def Eh.b{c a}(h:Eh c a){z}(f:z∈c)(d:z ∉ a):Jd a z:=λy e=>h.i z f d y (List.mem_of_getLast? e)
def zZ(a b:List LI)(i:Nat):Option Nat->Prop
 |none=>∀j z,j<i->a[j]?=some z->¬Jd b z
 |some k=>k<i/\∃m,a[k]?=some m/\Jd b m/\∀j z,j<i->a[j]?=some z->Jd b z->¬Fv z m
def zZ.b{d f i}{k:Option Nat}{z}(h:zZ d f i k)(n:d[i]?=some z)(g:¬Jd f z):zZ d f (i+1) k:=by
 have o:∀j,j<i+1->j<i\/j=i:=λj c=>by omega
 cases k with
 |none =>
  intro j y c a;rcases o j c with q|rfl
  .exact h j y q a
  rw[n]at a;injection a with e;subst e;exact g
 |some k =>
  obtain⟨t,m,p,r,s⟩:=h;refine⟨oM,m,p,r,λj y c a l=>?_⟩;rcases o j c with q|rfl
  .exact s j y q a l
  rw[n]at a;injection a with e;subst e;exact aB l g
def zZ.a{b d i z}(h:zZ b d i none)(f:b[i]?=some z)(g:Jd d z):zZ b d (i+1) (some i) :=
 ⟨oM,z,f,g,λj y l c k=>by
  by_cases e:j=i
  .subst e;rw[f]at c;injection c with e;subst e;exact xF _
  exact aB k (h j y oM c)⟩
def zZ.h{a c i k z m}(h:zZ a c i (some k))(q:a[k]?=some m)(g:a[i]?=some z)(n:Jd c z)(p:Fv z m):zZ a c (i+1) (some i):=by
 obtain⟨r,u,d,s,l⟩:=h;rw[q]at d;injection d with e;subst e;refine⟨oM,z,g,n,λj y t b o f=>?_⟩;by_cases e:j=i
 .subst e;rw[g]at b;injection b with e;subst e;exact xF _ f
 exact l j y oM b o (Wv f p)
def zZ.p{a f i k z m}(h:zZ a f i (some k))(d:a[k]?=some m)(q:a[i]?=some z)(o:¬Fv z m):zZ a f (i+1) (some k):=by
 obtain⟨r,t,c,g,l⟩:=h;rw[d]at c;injection c with e;subst e;refine⟨oM,m,d,g,λj y s b n=>?_⟩;by_cases e:j=i
 .subst e;rw[q]at b;injection b with e;subst e;exact o
 exact l j y oM b n
def Eh.e{c d}(h:Eh c d)(i:zZ c d c.length none):∀z,z∈d↔z∈c:=λz=>by
 refine⟨h.a z,λg=>Classical.byContradiction λk=>?_⟩;let⟨j,f⟩:=List.getElem?_of_mem g;exact i j z (Bz.1 f).1 f (h.b g k)
def Eh.d{c l k m}(h:Eh c l)(u:zZ c l c.length (some k))(p:c[k]?=some m):Eh c (l++[m]):=by
 obtain⟨x,A,n,s,t⟩:=u;rw[p]at n;injection n with e;subst e;have v:=zw h.r s;refine⟨h.r.d v,λz f=>?_,λz f g y w=>?_⟩
 .rcases By.1 f with q|q
  .exact h.a z q
  rw[Bu.1 q];exact Cn p
 simp only[By,Bu,not_or]at g;rcases By.1 w with q|q
 .exact h.i z f g.1 y q
 rw[Bu.1 q];let⟨j,o⟩:=List.getElem?_of_mem f;rcases Zs m z with r|r|r
 .exact r
 .exact aB r.symm g.2
 exact aB r (t j z (Bz.1 o).1 o (h.b f g.1))
def Rw:Option Nat->Int
 |none=>-1
 |some k=>k
def zx(w1:Wl)(a:List LI)(v:Vl)(wr:Wl):Prop:=∃L:List NC,Eh a (L.map (·.z))/\Ju w1 wr v L
def GA(wr:Wl)(a b:List LI)(v7 v8:Vl)(c:Wl):Prop:=∃(i m:Nat) (k:Option Nat),i<=a.length/\v8=Iv (i:Nat)/\v7=Iv (Rw k)/\c=wr.drewN m/\zZ a b i k
def zy z:Jd [] z:=λy a=>by simp at a
def l1 l x z:Jd (l++[x]) z↔Fv x z:=by
 unfold Jd;simp
def y0(d:List LI)(w:Wl)(e:Ending)(w':Wl):Prop :=
 ∃a c ls,e=Rt (Sl a ls.length c)/\Fg ls/\(∀z,z∈ls↔z∈d)/\Ff (λb=>b<w'.heap.size) w' a ls/\Kf w w'
def y3 Q o a c w(hT:Gs Q w a o)(hl:(o.flatMap Rl.tk).length<=1000000)(hb:∀z∈uH o,zW z)(be:∀z∈uH o,z.length<=1000000) :
  Cs 73 #[Sl a o.length c] w (y0 (uH o) w):=by
 have an:=FZ o;have cm:o.length<=(o.flatMap Rl.tk).length:=by
  clear hT hb hl an be;induction o with
  |nil=>simp
  |cons q o ih=>have:=q.c;simp only[Eu,zJ,Db];omega
 have cu:o.length<=1000000:=oM;have cq:(uH o).length<=1000000:=oM;have HB:Hid (∀z∈uH o,zW z):=hb;have HT:Hid (Gs Q w a o):=hT;have b8:Hid ((o.flatMap Rl.tk).length<=1000000):=hl;have bm:Hid (∀z∈uH o,z.length<=1000000):=be;clear hT hb hl an cm be;go_enter func73,ntmps73;go_wp2;go_loopw [3,4] (zs w o) (λ_ u _=>o.length-(intOf u).toNat)
 .exact⟨[],o,[],rfl,rfl,rfl,Ii.nil Cc⟩
 obtain⟨t,rest,L,E,rfl,hL,hR⟩:=hrel;obtain⟨va,vc,rfl⟩:=hR.a;cases rest with
 |nil =>
  have a4:¬((t.length:Nat):Int)<o.length:=by rw[E];simp
  have G:Hid (L.map (·.z)=uH o):=by rw[E,Dl];exact hL
  have I:Hid (Ju w wr (Sl va L.length vc) L):=hR;have HZ:Hid (∀x∈L,zW x.z):=λx C=>HB.o x.z (by rw[<-G.o];exact List.mem_map_of_mem C);have cb:Hid (∀x∈L,x.z.length<=1000000):=λx C=>bm.o x.z (by rw[<-G.o];exact List.mem_map_of_mem C);clear bm;have ce:L.length<=1000000:=by
   have:=Bj List.length G.o;rw[Bl]at this;omega
  clear E hL hR;generalize uH o=s at *;go_wp2
  rename World=>w1
  go_loopw [6] (zx w1 s) (λv _=>s.length+1-QZ v)
  .exact⟨[],⟨trivial,(λz hz=>by cases hz),(λz _ _ y A=>by cases A)⟩,Ii.nil Cc⟩
  obtain⟨L2,hO,J⟩:=hrel;obtain⟨oa,oc,rfl⟩:=J.a;have HO:Hid (Eh s (L2.map (·.z))):=hO;have R:Hid (Ju w1 wr (Sl oa L2.length oc) L2):=J;have KK:Hid (Kf w1 wr):=J.y;have bq:L2.length<=s.length:=by
   have:=hO.r.c hO.a;rwa [Bl]at this
  have bn:L.length=s.length:=by rw[<-G.o,Bl]
  have aa:Hid (L.length=s.length):=bn;obtain⟨B,a0⟩:∃B,B=L2.length:=⟨_,rfl⟩;rw[<-a0]at R bq ⊢;have H:Hid (B=L2.length):=a0;clear hO J bn a0;go_wp2;go_loopw [7,8] (GA wr s (L2.map (·.z))) (λ_ v8 _=>s.length-(intOf v8).toNat)
  .exact⟨0,0,none,zK,rfl,rfl,rfl,(λj z hj=>aB hj oM)⟩
  obtain⟨i,m,k,hi,rfl,rfl,rfl,hB⟩:=hrel;have D:Hid (zZ s (L2.map (·.z)) i k):=hB;clear hB;obtain⟨V,hV⟩:∃V,wr.drewN m=V:=⟨_,rfl⟩;have b9:Hid (∀n,∃q,V.drewN n=wr.drewN q):=λn=>⟨m+n,by rw[<-hV,Qw]⟩;have ah:Hid (Bw wr V):=by rw[<-hV];exact Be (zH wr) m
  have ag:Hid (V.heap.size=wr.heap.size/\Kf wr V):=by rw[<-hV];exact⟨sM,ur wr m⟩
  have ab:Hid (Bw w1 V):=uf KK.o.q ah.o;rw[hV];clear hV;by_cases br:i<s.length
  .have cv:(i:Int)<L.length:=oH aa.o;have cj:i<L.length:=oH aa.o;obtain⟨x,C⟩:∃x,L[i]?=some x:=⟨_,Bb cj⟩;have aj:Hid (s[i]?=some x.z):=(by show _=_;rw[<-G.o,Ev,C];rfl);let⟨P,F⟩:=I.o;obtain⟨gb,rfl,_,c0⟩:=jX F C;have c0':=ue c0 ab.o;have HX:Hid (Ints (λb=>b<w1.heap.size/\¬P b) .u8 V x.a x.z.length (lf x.z)):=(F.nm x (Cn C)).h ab.o;have BX:Hid (zW x.z):=HZ.o x (Cn C);have bg:Hid (∀n T,zZ s (L2.map (·.z)) (i+1) T->GA wr s (L2.map (·.z)) (Iv (Rw T)) (Iv ((i:Int)+1)) (V.drewN n)):=λn T hk=>by
    let⟨q,E⟩:=b9.o n;exact⟨i+1,q,T,br,sM,rfl,E,hk⟩
   clear F c0 C;rcases List.eq_nil_or_concat L2 with bd|⟨l,y,N⟩
   focus
    have aq:Hid (Jd (L2.map (·.z)) x.z):=(by rw[bd];exact zy _);obtain rfl:B=0:=(by rw[H.o,bd];rfl);clear bd;go_upto_region 17 with fail;go_quiet (fail);go_upto_region 18 with fail
   rotate_left
   focus
    rw[List.concat_eq_append]at N;have ao:L2[l.length]?=some y:=(by rw[N];simp);let⟨P2,a1⟩:=R.o;obtain⟨go,rfl,_,d0⟩:=jX a1 ao;have d0':=ue d0 ah.o;have aw:Hid (Ints (λb=>b<wr.heap.size/\¬P2 b) .u8 V y.a y.z.length (lf y.z)):=(a1.nm y (Cn ao)).h ah.o;have ap:Hid (zW y.z):=HB.o _ (HO.o.a _ (List.mem_map_of_mem (Cn ao)));have ai:Hid (Jd (L2.map (·.z)) x.z↔Fv y.z x.z):=by
     show _↔_;rw[N,Dt];exact l1 _ _ _
    have bs:(B:Int) > 0:=(by rw[H.o,N];simp only[zJ,Dd];omega);have cw:decide ((B:Int) > 0)=true:=Ke bs;have cx:decide ((0:Int)<(B:Int))=true:=Ke bs;have ck:0<B:=oM;have cy:decide (0<B)=true:=Ke ck;have cz:IntKind.i64.wrap ((B:Int)-1)=(l.length:Nat):=by
     rw[show(B:Int)-1=(l.length:Nat) by rw[H.o,N];simp];exact Rr oM (by have:=Bj List.length N;have:=H.o;simp only[zJ,Dd]at *;omega)
    have cn:(B:Int)-1=(l.length:Nat):=(by rw[H.o,N];simp);have an:(l.length:Int)<B:=(by rw[H.o,N];simp only[zJ,Dd];omega);clear a1 d0 ao N;by_cases ac:Fv y.z x.z
    rotate_left
    .have bz:Hid (zZ s (L2.map (·.z)) (i+1) k):=D.b aj (λq=>ac (ai.1 q));have O:Hid (∀d,Cs 115 #[Sl y.a y.z.length y.c,Sl x.a x.z.length x.c] (V.drewN d) λe w'=>e=Rt Bf/\w'=V.drewN d):=Zm aw.o HX.o ap.o BX.o ⟨λq=>aB q dC,λq=>aB q ac⟩;clear ac ai D;go_upto_region 17 with fail;go_quiet (first|(go_at_call 115;exact Ho (O _)));go_wp2;go_roundw;all_goals first
      |exact(bg _ k bz)
      |(simp[intOf];omega)
    have aq:Hid (Jd (L2.map (·.z)) x.z):=ai.o.2 ac;have O:Hid (∀d,Cs 115 #[Sl y.a y.z.length y.c,Sl x.a x.z.length x.c] (V.drewN d) λe w'=>e=Rt Bt/\w'=V.drewN d):=Zm aw.o HX.o ap.o BX.o ⟨λ_=>ac,λ_=>rfl⟩;clear ac ai;go_upto_region 17 with fail;go_quiet (first|(go_at_call 115;exact Ho (O.o _)));clear O aw ap d0' cn an;go_upto_region 18 with fail
   all_goals
    obtain⟨V2,al⟩:∃V2,V.drewN nq=V2:=⟨_,rfl⟩;have W:Hid (Bw V V2):=(by rw[<-al];exact Be (zH V) nq);have au:Hid (∀n T,zZ s (L2.map (·.z)) (i+1) T->GA wr s (L2.map (·.z)) (Iv (Rw T)) (Iv ((i:Int)+1)) (V2.drewN n)):=λn T hk=>by rw[<-al,Qw];exact bg.o _ _ hk
    rw[al];clear al;have c0'':=ue c0' W.o;clear c0';cases k with
    |none =>
     (try simp only[Rw])
     have ae:Hid (zZ s (L2.map (·.z)) (i+1) (some i)):=zZ.a D.o aj.o aq.o;clear D;go_quiet (fail);go_wp2;go_roundw;all_goals first
      |exact(au.o _ (some i) ae.o)
      |(simp[intOf];omega)
    |some kk =>
     (try simp only[Rw])
     let⟨ch,mm,Z,a8,a9⟩:=D.o;rw[<-G.o,Ev]at Z;obtain⟨y,A,rfl⟩:=Hn.1 Z;have bi:Hid (s[kk]?=some y.z):=(by show _=_;rw[<-G.o,Ev,A];rfl);let⟨P,F⟩:=I.o;let⟨cd,e',_,c1⟩:=jX F A;obtain rfl:gb=cd:=(by injection e' with e';injection e');have c1':=ue c1 (uf ab W);have HY:=ua ((F.nm y (Cn A)).h (uf ab W));have BY:=ua (HZ y (Cn A));have ci:(kk:Int)<L.length:=oM;have cg:¬(kk:Int)<0:=oM;clear F e' c1 Z a8 a9 A;by_cases ad:Fv x.z y.z
     .have ae:Hid (zZ s (L2.map (·.z)) (i+1) (some i)):=zZ.h D bi aj aq ad;have O:=ua (Zm (HX.h W) HY BX BY ⟨λ_=>ad,λ_=>rfl⟩);clear D ad;go_quiet (first|(go_at_call 115;exact Ho (O _)));go_wp2;go_roundw;all_goals first
       |exact(au _ (some i) ae)
       |(simp[intOf];omega)
     have ae:Hid (zZ s (L2.map (·.z)) (i+1) (some kk)):=zZ.p D bi aj ad;have O:Hid (∀d,Cs 115 #[Sl x.a x.z.length x.c,Sl y.a y.z.length y.c] (V2.drewN d) λe w'=>e=Rt Bf/\w'=V2.drewN d):=Zm (HX.h W) HY BX BY ⟨λq=>aB q dC,λq=>aB q ad⟩;clear D ad;go_quiet (first|(go_at_call 115;exact Ho (O _)));go_wp2;go_roundw;all_goals first
      |exact(au _ (some kk) ae)
      |(simp[intOf];omega)
  have hlt':¬(i:Int)<L.length:=oH aa.o;have HI:Hid (i=s.length):=by show i=s.length;omega
  cases k with
  |none =>
   (try simp only[Rw])
   have HE:Hid (∀z,z∈L2.map (·.z)↔z∈s):=HO.e (by have:=D;rw[HI.o]at this;exact this);go_wp2;go_ret;have hr:=R.z0.h ah;rw[<-ag.o.1]at hr;exact⟨oa,oc,L2.map (·.z),by rw[Bl,<-H.o];rfl,HO.o.r,HE.o,hr,(I.o.y.c KK.o).c ag.o.2⟩
  |some kk =>
   (try simp only[Rw])
   have hB:=D;rw[HI.o]at hB;have W:=ua hB;obtain⟨ch,mm,Z,a8,a9⟩:=hB;rw[<-G.o,Ev]at Z;obtain⟨y,A,rfl⟩:=Hn.1 Z;have b7:Hid (Eh s (L2.map (·.z)++[y.z])):=HO.d W (by rw[<-G.o,Ev,A];rfl);obtain⟨P,F⟩:=I;obtain⟨gb,rfl,_,c1⟩:=jX F A;have c1':=ue c1 ab;have HY:=ua ((F.nm y (Cn A)).h ab);have c4:=ud c1';have ci:(kk:Int)<L.length:=oH aa.o;have cg:¬(kk:Int)<0:=oM;have c2:=cb y (Cn A);have ca:Hid (∀W3 a3,Ints (zF V W3) .u8 W3 a3 y.z.length (lf y.z)->Ints (zF wr W3) .u8 W3 a3 y.z.length (lf y.z)):=λW3 a3 h=>h.g (λb hb=>⟨by have:=ag.1;have:=hb.1;omega,hb.2⟩);have b5:=ua ag.2;have cf:L2.length<=1048576:=oH H.o;clear F c1 Z a8 a9 A D ag;go_wp2_with (first|(at_builtin;refine zr rfl _ _ rfl rfl rfl (z:=y.z) HY.o oM ?_;intro a3 c3 W3 b3 b4)|(at_builtin;refine Zl rfl _ _ rfl rfl rfl (y:=⟨y.z,a3,c3⟩) R.o (b5.c b4) (zq (ca _ _ b3)) cf ?_;intro a5 c5 W5 af));go_roundw
   .exact⟨L2++[⟨y.z,a3,c3⟩],by rw[Dt];exact b7.o,af.o⟩
   simp only[QZ];have:=H.o;omega
 |cons q rest =>
  have a4:t.length<o.length:=by rw[E];simp
  have ce:L.length<=1000000:=by
   have X:L.length=(uH t).length:=(by rw[<-hL,Bl]);have S:(uH o).length=(uH t).length+(uH (q::rest)).length:=(by rw[E];simp[uH]);omega
  have a7:o[t.length]?=some q:=by rw[E];simp
  obtain⟨b,off,rfl,Y⟩:=HT.at a4;let⟨X,S,ba,bc,h3,h4,h5⟩:=Y _ q a7;have bl:=ua (Y _ q a7);have I:Hid (Ju w wr (Sl va L.length vc) L):=hR;have HQ:Hid (o=(t++[q])++rest/\L.map (·.z)=uH t):=⟨by rw[E];simp,hL⟩;have aa:Hid ((uH t).length+(yW q).length<=1000000):=by
   have S:(uH o).length=(uH t).length+((yW q).length+(uH rest).length):=(by rw[E];simp[uH]);show _<=_;omega
  have cr:q.e.tk.length<=1000000:=by
   have S:(o.flatMap Rl.tk).length=(t.flatMap Rl.tk).length+(q.tk.length+(rest.flatMap Rl.tk).length):=(by rw[E];simp);have:=q.c;have:=b8.o;omega
  have hdl':((t.length:Nat):Int)<o.length:=oM;clear Y X S h3 h4 h5 E hL hR a7;have bf:Hid (∃d,d=t.length):=⟨_,rfl⟩;let⟨d,a6⟩:=bf.o;have b0:Hid (d=t.length):=a6;rw[<-a6]at a4 hdl' bl ⊢;clear a6 bf;have U:=I.y.q;obtain⟨X,S,ba,bc,h3,h4,h5⟩:=bl;let⟨na,nc,n2,bt⟩:=S.nm;have bj:=ua bt;have bw:=ua h4;have bx:Hid (w.cell? (Ad b (off+d*6+5))=some (Sl ba q.e.tk.length bc)):=h3;have r0:=ue X U;have r1:=ue n2 U;clear X S h3 h4 h5 n2 bt U;go_upto_if 19 with fail;go_cut [3] from 9 to 61 (λv wc=>∃L:List NC,L.map (·.z)=uH t++(if q.a.isSome then [q.f.nm] else [])/\Ju w wc v L)
  .cases am:q.a with
   |none =>
    rw[am]at r0;simp only[Option.isSome_none]at r0;go_wp2;go_meet
    case rel=>exact⟨L,by rw[HQ.o.2];simp[am],I.o⟩
   |some cc =>
    rw[am]at r0;simp only[Option.isSome_some]at r0;go_wp2_with (at_builtin;refine Zl rfl _ _ rfl rfl rfl (y:=⟨q.f.nm,na,nc⟩) I.o Cc (FY Cc bj.o) oM ?_;intro a5 c5 W5 af);go_meet
    case rel=>exact⟨L++[⟨q.f.nm,na,nc⟩],by rw[Dt,HQ.o.2];simp[am],af.o⟩
  obtain⟨L1,bp,a2⟩:=hcut;obtain⟨c6,c7,rfl⟩:=a2.a;have bh:=ua bp;have bk:=ua a2;clear bp a2 r0 r1 I bj;go_wp2;go_loopw [3,5] (zu w q.e.tk (uH t++yW q)) (λ_ u _=>q.e.tk.length+1-(intOf u).toNat)
  .exact⟨1,L1,oM,oM,rfl,by rw[bh.o];simp[yW],bk⟩
  obtain⟨j,L2,cs,ct,rfl,az,J⟩:=hrel;obtain⟨co,cp,rfl⟩:=J.a;have U:=J.y.q;have r5:=ue bx.o U;have av:Hid (L2.map (·.z)++uK (q.e.tk.drop (j-1))=uH t++yW q):=az;have R:Hid (Ju w wr (Sl co L2.length cp) L2):=J;have bq:L2.length<=1000000:=by
   have X:=Bj List.length az;have S:=aa.o;simp only[zJ,Bl]at X;omega
  clear az J bk bh;by_cases br:j<q.e.tk.length
  .obtain⟨p,rfl⟩:∃p,j=p+1:=⟨j-1,oM⟩;obtain⟨bb,bo,rfl,Y⟩:=bw.at (i:=p) oM;obtain⟨x,C⟩:∃x,q.e.tk[p]?=some x:=⟨_,Bb oM⟩;obtain⟨y,A⟩:∃y,q.e.tk[p+1]?=some y:=⟨_,Bb oM⟩;have s0:=ue (Y p x C).e U;let⟨ya,yc,y2,bu⟩:=(Y (p+1) y A).nm;have s1:=ue y2 U;have HY:=ua bu;have ay:Hid (L2.map (·.z)++((if x.e=94 then [y.nm] else [])++uK (q.e.tk.drop (p+1)))=uH t++yW q):=by
    have:=av.o;rw[Nj,z8 C A]at this;exact this
   have v1:((p+1:Nat):Int)-1=(p:Int):=oM;have hp:(p:Int)<q.e.tk.length:=oM;have hlt':((p+1:Nat):Int)<q.e.tk.length:=oM;clear Y C A y2 bu av U;by_cases ak:x.e=94
   .have ax:Hid ((L2++[(⟨y.nm,ya,yc⟩:NC)]).map (·.z)++uK (q.e.tk.drop (p+1))=uH t++yW q):=by
     have:=ay.o;rw[Zp ak]at this;rw[Dt,Ce];exact this
    rw[ak]at s0;clear ay;go_wp2_with (at_builtin;refine Zl rfl _ _ rfl rfl rfl (y:=⟨y.nm,ya,yc⟩) R.o Cc (FY Cc HY.o) oM ?_;intro a5 c5 W5 af);go_roundw
    .exact⟨p+1+1,_,oM,oM,by go_num,ax.o,af.o⟩
    simp[intOf];omega
   have ax:Hid (L2.map (·.z)++uK (q.e.tk.drop (p+1))=uH t++yW q):=by
    have:=ay;rw[Zn ak,Hm]at this;exact this
   have h94':(x.e==94)=false:=(by simpa using ak);go_wp2;go_roundw
   .exact⟨p+1+1,_,oM,oM,by go_num,ax,R⟩
   simp[intOf];omega
  have hlt':¬(j:Int)<q.e.tk.length:=oM;have b6:Hid (L2.map (·.z)=uH (t++[q])):=by
   have:=av;rw[ukn oM,Dl]at this;exact this.trans (by simp[uH])
  have b2:Hid (((d:Int)+1)=((t++[q]).length:Nat)):=by
   have:=b0;show((d:Int)+1)=((t++[q]).length:Nat);rw[zJ,<-this];simp
  go_wp2;go_roundw
  .exact⟨t++[q],rest,L2,HQ.1,by rw[<-b2.o],b6,R⟩
  simp[intOf];omega
end Go.Proofs.YtmlblamikgkdcaaGreat
