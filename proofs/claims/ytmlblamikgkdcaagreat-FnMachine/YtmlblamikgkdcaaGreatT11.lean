import Derived.Test.YtmlblamikgkdcaaGreatT09
import Derived.Test.YtmlblamikgkdcaaGreatT10
import Derived.Test.YtmlblamikgkdcaaGreatT08
set_option linter.unusedVariables false
set_option linter.unusedSimpArgs false
set_option linter.defProp false
set_option maxHeartbeats 40000000
set_option maxRecDepth 100000
namespace Go.Proofs.YtmlblamikgkdcaaGreat
open Go.RowKit
open Go.Proofs.Tryz
section
def IB(md:Region.Mode)(o:Oper)(L:Nat):Bool:=(List.range L).all λj=>o.after.any λe=>e.on==j&&Region.binds md e
def AK(ops:Array Oper):Bool:=(List.range ops.size).all λj=>match ops[j]? with|some o=>o.after.all λe=>decide (e.on<j)|none=>true
section
variable {P:Program} {md:Region.Mode} {ops:Array Oper} {C:Wl->Prop}
def unH{l:Array Bool}{j}(h:l.getD j true=true)(a:j<l.size):l.getD j false=true:=by
 simp[Array.getD,a]at h ⊢;exact h
def UY(g:AK ops=true)(a:Array Bool)(l:a.size=ops.size)(h:Region.ready md ops a = []):∀j,j<ops.size->a.getD j true=true:=by
 intro j;induction j using Nat.strongRecOn with
 |_ j k =>
  intro b;cases e:a.getD j true with
  |true=>rfl
  |false =>
   have:j∈Region.ready md ops a:=by
    rw[mem_ready];refine⟨e,ops[j],by simp[b],λx i _=>?_⟩;have c:=List.all_eq_true.1 g j (List.mem_range.2 b);simp only[Qv b]at c;have d:=Array.all_eq_true'.1 c x i;have f:x.on<j:=(by simpa using d);exact unH (k x.on f oM) oM
   rw[h]at this;cases this
def ukL{o:Oper}{L:Nat}(R:ops.size=L+1)(t:ops[L]?=some o)(F:IB md o L=true)(u:AK ops=true){Q:Act->Prop}{Q':Exit->Act->World->Prop}
  (z:∀a w,C w->Q a->Region.wanted o (yielded ops a.tmps)=true/\∀K:Act->World->Prop,(∀a w,Q' .normal a w->K a w)->o.wp P a w K Q') :
  ∀(fU:Nat) (b:Array Bool) (a:Act) (w:Wl),b.size=L+1->b.getD L true=false->C w->wpAnyQ P md ops C Q fU (b.setIfInBounds L true) a->wpAny P md ops Q' (fU+1) b a w:=by
 have s:∀(fU:Nat) (b:Array Bool) (a:Act) (w:Wl),b.size=L+1->b.getD L true=false->C w->L∈Region.ready md ops b->(Region.ready md ops (b.setIfInBounds L true) = []->Q a)->wpOp P ops Q' L (wpAny P md ops Q' fU (b.setIfInBounds L true)) a w:=by
  intro fU b a w k f g E D;have A:∀j,j<L->b.getD j false=true:=λj n=>by
   let⟨_,N,m,h⟩:=mem_ready.1 E;rw[t]at m;cases m;have v:=List.all_eq_true.1 F j (List.mem_range.2 n);let⟨i,c,l⟩:=Array.any_eq_true.1 v;simp only[Ng,beq_iff_eq]at l;have:=h _ (Array.getElem_mem c) l.2;rw[l.1]at this;exact this
  have p:Region.ready md ops (b.setIfInBounds L true) = []:=by
   cases I:Region.ready md ops (b.setIfInBounds L true) with
   |nil=>rfl
   |cons j r =>
    exfalso;have n:j∈Region.ready md ops (b.setIfInBounds L true):=(by rw[I];exact Qy);let⟨d,N,m,_⟩:=mem_ready.1 n;have O:=(Gw.1 m).1;by_cases e:j=L
    .subst e;simp[Array.getD,k]at d
    have B:j<L:=oM;have:=A j B;have hjl':j<b.size:=oM;rw[getD_set_ne true (Ne.symm e)]at d;simp[Array.getD,hjl']at d this;rw[this]at d;cases d
  let⟨G,H⟩:=z a w g (D p);unfold wpOp;simp only[t,G,if_true];refine .inl (H _ (λq w' h=>?_));cases fU with
  |zero=>exact⟨p,h⟩
  |succ fU=>exact⟨λ_=>h,λi c=>by rw[p]at c;cases c⟩
 intro fU;induction fU with
 |zero =>
  intro b a w k f g h;refine⟨λd=>?_,λi c=>?_⟩
  .have:=UY u b oM d L oM;rw[f]at this;cases this
  by_cases e:i=L
  .subst e;exact s 0 b a w k f g c (λ_=>h.2)
  have:=ready_mono c e;rw[h.1]at this;cases this
 |succ fU J =>
  intro b a w k f g h;refine⟨λd=>?_,λi c=>?_⟩
  .have:=UY u b oM d L oM;rw[f]at this;cases this
  by_cases e:i=L
  .subst e;exact s (fU+1) b a w k f g c h.1
  have l:=h.2 i (ready_mono c e);refine wpOp_of_qOp g (λq w' x y=>J (b.setIfInBounds i true) q w' (by simpa using k) ?_ x ?_) l
  .rw[getD_set_ne true e];exact f
  rw[Array.setIfInBounds_comm _ _ e];exact y
def upY{Q:Act->Prop}(g:Region.noSelect ops=true)(l:List Oper):∀(k:Nat) (d:Array Bool) (a:Act),(∀j,j<l.length->l[j]?=ops[k+j]?)->Region.lexFrom md ops l.length k d=true->wpQuiet P ops C Q l a->wpAnyQ P md ops C Q l.length d a:=by
 induction l with
 |nil=>exact λ_ _ _ _ b h=>⟨by simpa[Region.lexFrom] using b,h⟩
 |cons o l n =>
  intro k d a e b h;have c:ops[k]?=some o:=by have:=e 0 sM;simpa using this.symm
  simp only[Db,Region.lexFrom,Ng]at b;have i:qOp P ops C k (wpQuiet P ops C Q l) a:=by
   unfold qOp;simp only[c];exact h
  let⟨v,m,f⟩:=yieldsIn_of_qOp c i;refine wpAnyQ_first c (Region.noSelect_spec g) l.length d a (Region.free_spec c b.1.2) (by simpa using b.1.1) m (n (k+1) _ _ (λj p=>?_) b.2 f);have:=e (j+1) sO;rw[show k+1+j=k+(j+1) by omega,<-this];simp
def ueG{o:Oper}{l:List Oper}{id:Nat}{Q':Exit->Act->World->Prop}{a:Act}{w:Wl}(i:P.follows .mixedOrders=true)(k:IB .any o l.length=true)(f:AK (l++[o]).toArray=true)
  (c:(Region.noSelect (l++[o]).toArray&&Region.lexFrom .any (l++[o]).toArray l.length 0 ((Array.replicate (l++[o]).toArray.size false).setIfInBounds l.length true))=true) (d:C w.drew)
  (h:wpQuiet P (l++[o]).toArray C (λb=>∀w',C w'->Region.wanted o (yielded (l++[o]).toArray b.tmps)=true/\∀K:Act->World->Prop,(∀a w,Q' .normal a w->K a w)->o.wp P b w' K Q') l a):(Code.region id (l++[o]).toArray true).wp P Q' a w:=by
 simp only[Ng]at c;refine wp_region_any i ?_;have e:(l++[o]).toArray.size=l.length+1:=sM;rw[e];refine ukL (C:=C) (o:=o) (L:=l.length) e sM k f (Q:=λb=>∀w',C w'->Region.wanted o (yielded (l++[o]).toArray b.tmps)=true/\∀K:Act->World->Prop,(∀a w,Q' .normal a w->K a w)->o.wp P b w' K Q') (λa w d h=>h w d) _ _ _ _ sM (by simp[Array.getD]) d ?_;have:=upY (C:=C) (md:=.any) c.1 l 0 ((Array.replicate (l++[o]).toArray.size false).setIfInBounds l.length true) a (λj g=>?_) c.2 h
 .rw[e]at this;exact this
 rw[Bp];simp[Es g]
end
def uiU{P:Program}{ι:Type}(F:ι->World){id:Nat}{Q':Exit->Act->World->Prop}{a:Act}{w}{l:List Oper}{o:Oper}(b:l.getLast? = some o)(k:P.follows .mixedOrders=true)(m:IB .any o l.dropLast.length=true)(j:AK l.toArray=true)(g:(Region.noSelect l.toArray&&Region.lexFrom .any l.toArray l.dropLast.length 0 ((Array.replicate l.toArray.size false).setIfInBounds l.dropLast.length true))=true)(i:∃n,w.drew=F n)(h:wpQuiet P l.toArray (λw'=>∃n,w'=F n) (λc=>∀w',(∃n,w'=F n)->Region.wanted o (yielded l.toArray c.tmps)=true/\∀K:Act->World->Prop,(∀a w,Q' .normal a w->K a w)->o.wp P c w' K Q') l.dropLast a):(Code.region id l.toArray true).wp P Q' a w:=by
 have e:l.dropLast++[o]=l:=by
  have d:l≠[]:=by
   rintro rfl;simp at b
  rw[List.getLast?_eq_some_getLast d]at b;have:=List.dropLast_concat_getLast d;rw[Qu b]at this;exact this
 have f:=ueG (P:=P) (C:=λw'=>∃n,w'=F n) (o:=o) (l:=l.dropLast) (id:=id) (Q':=Q') (a:=a) (w:=w) k m;rw[e]at f;exact f j g i h
end
open M (OpD ug Gr)
def WW{X Y a c t}(h:((X.alloc (Oc a t)).alloc (Oc c t)).drew=Y):zG Y X.heap.size a/\zG Y (X.heap.size+1) c/\Bw X Y :=
 h▸⟨((um X a t).al _).on (zH _).drew,(uW (X.alloc (Oc a t)) c t (X.heap.size+1) sM).on (zH _).drew,(Bm X).drew⟩
def uvC gp mp sa nr sc m n oc mk o x y w(l:o.e=4)(C:Ez w m n x)(D:Ez w m (n+6) y)(E:x.f.OK)(F:y.f.OK) :
  Cs 100 #[.agg #[Iv o.e,Sl sa o.sl sc,Iv o.f],Sl (Sm m n) 2 oc,gp,mp] w (Lm (uJ nr mk o x y) w):=by
 have z:Hid (uJ nr mk o x y=⟨x.g&&y.g,if x.g then x.f.e y.f else x.f,x.e||y.e⟩):=by show _=_;simp[uJ,l,M.bE]
 rw[l];have Z:=ua C;have HY:=ua D;have KX:=ua E;have KY:=ua F;clear l E F C D;obtain⟨xn,xb,xl⟩:=x;obtain⟨yn,yb,yl⟩:=y;cases xn<;>cases xl
 all_goals
  go_enter func100,ntmps100;go_wp2;generalize j:(w.alloc _).alloc _=X;have i:Hid (Bw w X):=j▸Bm w;have u:=ua (j▸uW _ _ _ (w.heap.size+1) sM:zG X (w.heap.size+1) #[Bf,Uv 0,Uv 0,Uv 0,Uv 0,Bf]);clear j;let⟨s,G,H,I,J,L⟩:=Z.o.h i.o;let⟨N,y1,y2,O,P,Q⟩:=HY.o.h i.o;simp only at s G H I J L N y1 y2 O P Q;have aa:=ud s;go_region
 all_goals
  generalize A:World.drew _=Y;let⟨c,d,b⟩:=WW A;have v:=ua (uf i.o b);have R:=ua c;have S:=ua d;have T:=ua (u.o.on b);let⟨p,p',lp⟩:=c.x;let⟨q,q',lq⟩:=d.x;let⟨r,r',lr⟩:=(u.o.on b).x;clear s G H I J L N y1 y2 O P Q A c d b aa;have ab:¬w.heap.size+1=Y.heap.size:=oM;first
  |(go_wp2
    refine zL ?_ rfl ⟨rfl,?_⟩
    .rw[z.o];simp[results,f100,go_sem,Jf, *]
    repeat with_reducible first|exact v.o|refine uD ?_ oM|refine uf ?_ Bi)
  |(go_wp2_with (go_at_call 104;refine(VP xb yb _ KX.o KY.o).mono ?_;rintro e W ⟨⟨t,B,rfl⟩,k⟩;have U:=ua B;have a:=uf (zO Y) k;have V:=ua (uf v.o a);let⟨b0,b1,b2⟩:=((Eb Y).on k).x;let⟨p,p',lp⟩:=(R.o.on a).x;let⟨q,q',lq⟩:=(S.o.on a).x;let⟨r,r',lr⟩:=(T.o.on a).x;clear k a B)
    refine zL ?_ rfl ⟨rfl,?_⟩
    .obtain rfl:=U.o;rw[z.o];simp[results,f100,go_sem,Jf, *]
    repeat with_reducible first|exact V.o|refine uD ?_ oM|refine uf ?_ Bi)
def uvD gp mp sa nr sc B C oc mk o x y w(A:o.e=5)(O:Ez w B C x)(P:Ez w B (C+6) y)(Q:x.f.OK)(R:y.f.OK) :
  Cs 100 #[.agg #[Iv o.e,Sl sa o.sl sc,Iv o.f],Sl (Sm B C) 2 oc,gp,mp] w (Lm (uJ nr mk o x y) w):=by
 have HK:Hid (uJ nr mk o x y=⟨x.g||y.g,x.f.e y.f,x.e||y.e⟩):=by show _=_;simp[uJ,A,M.bE]
 rw[A];have HX:=ua O;have HY:=ua P;have KX:=ua Q;have KY:=ua R;clear A Q R O P;obtain⟨xn,j,xl⟩:=x;obtain⟨yn,k,yl⟩:=y;have N:=λW=>VP j k W KX.o KY.o;cases xn<;>cases xl
 all_goals
  go_enter func100,ntmps100;go_wp2;generalize z:(w.alloc _).alloc _=X;have p:Hid (Bw w X):=z▸Bm w;have AX:=ua (z▸uW _ _ _ (w.heap.size+1) sM:zG X (w.heap.size+1) #[Bf,Uv 0,Uv 0,Uv 0,Uv 0,Bf]);clear z;let⟨D,S,T,U,Z,x5⟩:=HX.o.h p.o;let⟨y0,y1,y2,y3,y4,y5⟩:=HY.o.h p.o;simp only at D S T U Z x5 y0 y1 y2 y3 y4 y5;have aa:=ud D;go_region
 all_goals
  generalize L:World.drew _=Y;let⟨E,G,s⟩:=WW L;let⟨ι,ab,F,i,t⟩:=Vb Y;have c1:=λn=>(E.on (i n)).x.1;have c2:=λn=>(G.on (i n)).x.1;have HB:=ua (uf p.o s);have H3:=ua (AX.o.on s);have H:Hid (∃n,Y.drew=F n):=t _ (zH Y).drew;have I:=ua i;have J:=ua λn=>(N (F n)).mono (λe W q=>show e=Rt (.agg #[Uv (j.e k).a,Uv (j.e k).b,Uv (j.e k).c,Uv (j.e k).d])/\∃m,W=F m by
   obtain⟨⟨u,rfl,rfl⟩,hb⟩:=q;exact⟨rfl,t W (uf (i n) hb)⟩)
  clear D S T U Z x5 y0 y1 y2 y3 y4 y5 L E G s aa i t N;go_wp2_with fail;refine uiU F rfl rR rR rR rR H.o ?_;simp only[List.dropLast];repeat (go_big_quiet_step (first|(go_at_call 104;exact J.o _)))
  refine wpQuiet_nil ?_;rintro _ ⟨nq,rfl⟩;refine⟨by simp[Region.wanted],λK hK=>?_⟩;let⟨V,v⟩:=nm (F nq);have l:=v▸I.o nq;let⟨r,r',lr⟩:=(H3.o.on l).x;have HV:=ua (uf HB.o l);rw[v];clear v H I J l c1 c2;dsimp only[List.getLast];go_simp;refine hK _ _ ?_;go_wp2;refine zL ?_ rfl ⟨rfl,?_⟩
  .rw[HK.o];simp[results,f100,go_sem,Jf, *]
  repeat with_reducible first|exact HV.o|refine uD ?_ oM
def usX j l sa nr sc b d m mk o x w(a:o.e=6)(k:Ez w b d x) :
  Cs 100 #[.agg #[Iv o.e,Sl sa o.sl sc,Iv o.f],Sl (Sm b d) 1 m,j,l] w (Lm (uJ nr mk o x default) w):=by
 have c:¬M.bE o:=by rintro (q|q)<;>omega
 have i:Hid (uJ nr mk o x default=⟨true,x.f,x.g||x.e⟩):=by show _=_;simp[uJ,a,c]
 have v:(o.e==0)=false:=by simp[a]
 have y:(o.e==2)=false:=by simp[a]
 have z:(o.e==3)=false:=by simp[a]
 have A:(o.e==4)=false:=by simp[a]
 have B:(o.e==5)=false:=by simp[a]
 have C:(o.e==6)=true:=by simp[a]
 obtain⟨h,n,p,r,s,t⟩:=k;have D:b<w.heap.size:=ud h;clear a c;obtain⟨u,E,F⟩:=x;cases u;all_goals (
  simp only at h n p r s t;go_enter func100,ntmps100;go_wp2;go_region;go_wp2;refine zL (by simp[results,f100,go_sem];rfl) rfl ?_;exact⟨by rw[i.o];exact BB rfl rfl rfl rfl rfl rfl,(Bm w).drew⟩)
def uvB h j sa nr sc b d k mk o x w(a:o.e=7)(i:Ez w b d x) :
  Cs 100 #[.agg #[Iv o.e,Sl sa o.sl sc,Iv o.f],Sl (Sm b d) 1 k,h,j] w (Lm (uJ nr mk o x default) w):=by
 have c:¬M.bE o:=by rintro (q|q)<;>omega
 have g:Hid (uJ nr mk o x default=⟨true,x.f,x.e⟩):=by show _=_;simp[uJ,a,c]
 have m:(o.e==0)=false:=by simp[a]
 have n:(o.e==2)=false:=by simp[a]
 have p:(o.e==3)=false:=by simp[a]
 have r:(o.e==4)=false:=by simp[a]
 have s:(o.e==5)=false:=by simp[a]
 have t:(o.e==6)=false:=by simp[a]
 have u:(o.e==7)=true:=by simp[a]
 obtain⟨l,y,z,A,B,C⟩:=i;have v:b<w.heap.size:=ud l;clear a c;go_enter func100,ntmps100;go_wp2;go_region;go_wp2;refine zL (by simp[results,f100,go_sem];rfl) rfl ?_;exact⟨by rw[g.o];exact BB rfl rfl rfl rfl rfl rfl,(Bm w).drew⟩
def Mv(S:Nat->Bool)(m:Nat)(j:Nat):Vl:=if j<m then .bool (S j) else Bf
def ulg{t:TypeId}{w:Wl}{b n m:Nat}{S:Nat->Bool}{v:Bool}(h:w.rowIs b t n (Mv S m))(c:v=S m):(w.setCell (Ad b m) (.bool v)).rowIs b t n (Mv S (m+1)):=by
 subst c;refine(h.set m (.bool (S m))).congr λi _=>?_;unfold Mv;by_cases e:i=m
 .subst e;simp
 rw[Zn e];by_cases a:i<m
 .rw[Zp a,Zp oM]
 rw[Zn a,Zn oM]
def ulh{t:TypeId}{w:Wl}{b n:Nat}{S:Nat->Bool}(h:w.rowIs b t n (Mv S n)):w.rowIs b t n (λi=>.bool (S i)):=h.congr λi a=>by simp[Mv,a]
def nuO(W1:Wl)(B n:Nat)(F:(Nat->Bool)->Nat->Bool)(b c:Vl)(wr:Wl):Prop :=
 ∃r a:Nat,r<=n/\c=Iv (r:Int)/\b=Sl (Sm a 0) n n/\B<a/\wr.rowIs a 4 n (λi=>.bool (M.rnd F r i))/\Below (B+1) W1 wr
def nuI(W2:Wl)(B c a n:Nat)(S:Nat->Bool)(b:Vl)(wr:Wl):Prop :=
 ∃k:Nat,k<=n/\b=Iv (k:Int)/\wr.rowIs a 4 n (Mv S k)/\Below a W2 wr
def yq{w:Wl}{b n:Nat}{t:TypeId}{f:Nat->Value}(h:w.rowIs b t n f):b<w.heap.size:=by
 obtain⟨c,h,_⟩:=h;exact(Gw.1 h).1
def uju{w b n t S}(h:w.rowIs b t n (λi=>.bool (S i))):Cd w b 0 n S:=λi a=>by rw[Bp];exact h.cell a
structure uxB(g:Gr)(w:Wl)(e:Ending)(w':Wl):Prop where
 k:∃b,w.heap.size<=b/\e=Rt (Sl (Sm b 0) (g.nr+g.nb) (g.nr+g.nb))/\w'.rowIs b 4 (g.nr+g.nb) (λi=>.bool (M.rnd (xj g) (g.nr+g.nb) i))
 q:Bw w w'
def uq1 Q ra la a nr rc b lc n c N B d e mc mk w(j:nr+b=N)(f:nr<=100)(g:b<=100)(l:n<=2000)(k:n<=c)(h:zM Q w a n B)(m:n=0\/M.bC nr b n B)(i:Cd w d e N mk) :
  Cs 135 #[.agg #[Sl ra nr rc,Sl la b lc],Sl a n c,Sl (Sm d e) N mc] w (BY (M.bZ nr mk n B) w):=by
 subst j;exact ujt Q ra la a nr rc b lc n c B d e mc mk w f g l k h m i
def ue8 Q ra la rc lc g w(L:zV Q w ra la g)(t:M.Valid g)(Y:∀p,p<g.nr+g.nb->(nd g p).bl<=2000) :
  Cs 75 #[.agg #[Sl ra g.nr rc,Sl la g.nb lc]] w (uxB g w):=by
 have A:=t.r2;have B:=t.l2;have HG:Hid (zV Q w ra la g):=L;have HV:Hid (M.Valid g):=t;have HS:Hid (∀p,p<g.nr+g.nb->(nd g p).bl<=2000):=Y;obtain⟨n,X⟩:∃n,g.nr+g.nb=n:=⟨_,rfl⟩;have d:Hid (g.nr+g.nb=n):=X;have aj:n<=200:=oM;have ai:=run_make_row' (P:=prog) 147 4 Bf 1 underlying147 Xr rfl .i64 .i64 n oM oM;clear L t Y X;go_enter func75,ntmps75;go_wp2_with fail;refine(KI ra la g.nr rc g.nb lc _ A B).mono ?_;rintro e W1 ⟨rfl,l⟩;rw[d.o];have g0:=ue (a:=(Ad w.heap.size 0)) (v:=Sl ra g.nr rc) (cN w.heap.size rfl rfl) l;have g1:=ue (a:=(Ad w.heap.size 1)) (v:=Sl la g.nb lc) (cN w.heap.size rfl rfl) l;have B1:=ua (uf (zO w) l);have s1:w.heap.size<W1.heap.size:=by have:=l.size;simp at this;omega
 clear l;go_wp2;go_loopw [4,5] (λmv D wr=>nuO W1 w.heap.size n (xj g) mv D wr) (λ_ D _=>n-(intOf D).toNat)
 .exact⟨0,W1.heap.size,zK,rfl,rfl,s1,(Kh W1 _ n 4).congr λi _=>rfl,(zH W1).alloc oM _⟩
 obtain⟨r,c,hr,rfl,rfl,W,f,b⟩:=hrel;have S:=B1.trans (b.mono oM);have k0:wr.cell? (Ad w.heap.size 0)=some (Sl ra g.nr rc):=(b.cell (p:=(Ad w.heap.size 0)) (Iy _)).trans g0;have k1:wr.cell? (Ad w.heap.size 1)=some (Sl la g.nb lc):=(b.cell (p:=(Ad w.heap.size 1)) (Iy _)).trans g1;have J:Hid (wr.rowIs c 4 n (λi=>.bool (M.rnd (xj g) r i))):=f;have o:=yq f;have u:=ua S;have I:=ua b;clear f b S;by_cases ah:r<n
 .obtain⟨V,eV⟩:∃V,wr=V:=⟨_,rfl⟩;subst wr;go_wp2;have m0:(V.alloc (Oc (madeCells #[Bf] n) 4)).cell? (Ad w.heap.size 0)=some (Sl ra g.nr rc):=uG _ k0;have m1:(V.alloc (Oc (madeCells #[Bf] n) 4)).cell? (Ad w.heap.size 1)=some (Sl la g.nb lc):=uG _ k1;have R1:Hid ((V.alloc (Oc (madeCells #[Bf] n) 4)).rowIs c 4 n (λi=>.bool (M.rnd (xj g) r i))):=J.o.of_block (Jo o);have y:Hid ((V.alloc (Oc (madeCells #[Bf] n) 4)).rowIs V.heap.size 4 n (Mv (xj g (M.rnd (xj g) r)) 0)):=(Kh V _ n 4).congr λi _=>by simp[Mv]
  have E:Hid (Bw V (V.alloc (Oc (madeCells #[Bf] n) 4))):=zO V;generalize V.alloc (Oc (madeCells #[Bf] n) 4)=W2 at *;obtain⟨j,m⟩:∃x,V.heap.size=x:=⟨_,rfl⟩;have ae:=ua m;have l2:=yq y;rw[m]at l2 o;rw[m]at y;rw[m];clear m;go_loopw [7] (λC wr=>nuI W2 w.heap.size c j n (xj g (M.rnd (xj g) r)) C wr) (λC _=>n-(intOf C).toNat)
  .exact⟨0,zK,rfl,y,zH _⟩
  obtain⟨k,hk,rfl,f,b⟩:=hrel;have s:Hid (wr.rowIs j 4 n (Mv (xj g (M.rnd (xj g) r)) k)):=f;have H:=ua b;have ad:=yq f;have Z:wr.cell? (Ad w.heap.size 0)=some (Sl ra g.nr rc):=(b.cell (p:=(Ad w.heap.size 0)) (Nat.lt_trans W o)).trans m0;have j1:wr.cell? (Ad w.heap.size 1)=some (Sl la g.nb lc):=(b.cell (p:=(Ad w.heap.size 1)) (Nat.lt_trans W o)).trans m1;have RM:Hid (wr.rowIs c 4 n (λi=>.bool (M.rnd (xj g) r i))):=R1.of_block (b.block c o);have aa:Hid (Bw w wr):=(u.trans (E.mono u.size)).trans (b.mono oM);have lw:=ud Z;clear f b;by_cases U:k<n
  .have hc:=s.cell U;have hf:=s.frozen k;go_wp2;go_region_with (first|(go_at_call 65;refine(qR Q ra la rc lc g _ (HG.o.h aa.o.drew) A B k (oH d.o)).mono ?_;rintro e z ⟨⟨ba,bc,rfl,N,T⟩,O⟩;have q:Bw wr z:=(zH wr).drew.trans O;have i0:=ue Z q;have i1:=ue j1 q;have F:Hid (Bw wr z):=q;have ac:Hid (zM Q z ba (nd g k).bl (nd g k).e):=N;have ab:Hid ((nd g k).bl<=bc):=T;clear q O N T)|(go_at_call 135;refine(uq1 Q ra la ba g.nr rc g.nb lc (nd g k).bl bc n (nd g k).e c 0 n (M.rnd (xj g) r) _ d.o A B (HS.o k (oH d.o)) ab.o ac.o (yr HV.o (oH d.o)) (uju (RM.o.of_block (F.o.block c oM)))).mono ?_;rintro e W4 ⟨rfl,R⟩;have G:Hid (Bw wr W4):=uf F.o R;have R4:Hid (W4.rowIs j 4 n (Mv (xj g (M.rnd (xj g) r)) k)):=s.o.of_block (G.o.block j ad);have af:=R4.o.cell U;have ag:=R4.o.frozen k;clear R));all_goals go_wp2
   all_goals go_roundw
   all_goals first
    |exact⟨k+1,oM,by go_num,ulg R4 rfl,(H.trans (G.mono oM)).setCell (p:=(Ad j k)) zD _⟩
    |(simp[intOf];omega)
  obtain rfl:k=n:=oM;go_wp2;go_roundw
  .exact⟨r+1,j,oM,by go_num,rfl,oM,ulh s,I.trans ((E.mono (oH I.size)).trans (H.mono oM))⟩
  simp[intOf];omega
 obtain rfl:r=n:=oM;go_wp2;go_ret;exact⟨⟨c,oM,by rw[d.o];rfl,by rw[d.o];exact J⟩,u⟩
def KG{g}(h:M.Sound g)p(a:p<g.nr+g.nb):(nd g p).bl<=2000:=by
 unfold nd;split
 .exact qN h oM
 exact Qg h oM
def ZX{g}(h:vS g)p(b:p<g.nr+g.nb):(nd g p).bl<=1048576:=by
 unfold nd;split
 .exact(h.a p oM).e.1
 exact(h.d (p-g.nr) oM).e.1
def uob ra la g rc lc(A:g.nr<=100)(B:g.nb<=100):AY ra la g rc lc:=by
 intro S D W v w C o l W' sa z sc j t E p F n;have G:=t.1;have H:=t.2.1;have hC':=C.h E;have c:(o.e=0\/o.e=1)\/(o.e=2\/o.e=3)\/o.e=4\/o.e=5\/o.e=6\/o.e=7:=oM;rcases c with c|c|c|c|c|c
 .have a:M.ar o.e=0:=by rcases c with q|q<;>rw[q]<;>rfl
  have d:yw g.nr S o l=uJ g.nr S o default default:=by simp[yw,a]
  rw[d,a];exact usU v w ra la sa z g.nr rc g.nb lc sc _ j S o W' hC' c
 .have a:M.ar o.e=0:=by rcases c with q|q<;>rw[q]<;>rfl
  have d:yw g.nr S o l=uJ g.nr S o default default:=by simp[yw,a]
  rw[d,a];exact usW v w ra la sa z g.nr rc g.nb lc sc _ j S o W' hC' c t D A B
 .have a:M.ar o.e=2:=by rw[c];rfl
  obtain⟨f,b,m,y,k,x,r,rfl,rfl,i,u⟩:=n.2 a;have d:yw g.nr S o ((m,y)::(k,x)::r)=uJ g.nr S o x y:=by simp[yw,a]
  rw[d,a];exact uvC _ _ sa g.nr sc f b j S o x y W' c i u (p (k,x) sM) (p (m,y) sM)
 .have a:M.ar o.e=2:=by rw[c];rfl
  obtain⟨f,b,m,y,k,x,r,rfl,rfl,i,u⟩:=n.2 a;have d:yw g.nr S o ((m,y)::(k,x)::r)=uJ g.nr S o x y:=by simp[yw,a]
  rw[d,a];exact uvD _ _ sa g.nr sc f b j S o x y W' c i u (p (k,x) sM) (p (m,y) sM)
 .have a:M.ar o.e=1:=by rw[c];rfl
  obtain⟨f,b,s,x,r,rfl,rfl,i⟩:=n.1 a;have d:yw g.nr S o ((s,x)::r)=uJ g.nr S o x default:=by simp[yw,a]
  rw[d,a];exact usX _ _ sa g.nr sc f b j S o x W' c i
 have a:M.ar o.e=1:=by rw[c];rfl
 obtain⟨f,b,s,x,r,rfl,rfl,i⟩:=n.1 a;have d:yw g.nr S o ((s,x)::r)=uJ g.nr S o x default:=by simp[yw,a]
 rw[d,a];exact uvB _ _ sa g.nr sc f b j S o x W' c i
section
open M (OpD ug Gr)
def Ti(f:Nat->Bool):Nat->NS
 |0=>nz
 |k+1=>if f k then (Ti f k).n k else Ti f k
def E4 f k v(c:k<=256)(b:v<256):(Ti f k).j v=(decide (v<k)&&f v):=by
 induction k with
 |zero=>rw[Ti,Sf];simp
 |succ k a =>
  rw[Ti];by_cases e:f k=true
  .rw[Zp e,AV oM b,a oM];by_cases q:v=k
   .subst q;simp[e]
   have:(v<k+1)=(v<k):=(by rw[eq_iff_iff];omega);simp[q,this]
  rw[Zn e,a oM];by_cases q:v=k
  .subst q;simp at e;simp[e]
  have:(v<k+1)=(v<k):=by rw[eq_iff_iff];omega
  simp[this]
def Ns(g:Gr)(S:NS)(p:Nat):Fs:=M.top (M.stk (uJ g.nr S) (nd g p).e (nd g p).bl)
def Rc(x y:Fs):Prop:=(x.g=true->y.g=true)/\(∀u,x.f.j u=true->y.f.j u=true)/\(x.e=true->y.e=true)
def Rc.e x:Rc x x:=⟨id,λ_=>id,id⟩
def E5{nr S i o}(h:M.bE o->S.j (M.tg nr o)=true->i.j (M.tg nr o)=true){x y c d}(r:Rc x c)(s:Rc y d):Rc (uJ nr S o x y) (uJ nr i o c d):=by
 obtain⟨b,a,g⟩:=r;obtain⟨b1,m,n⟩:=s;have k:∀u,(x.f.e y.f).j u=true->(c.f.e d.f).j u=true:=λu=>by
  simp only[IV,Pl];exact Or.imp (a u) (m u)
 have l:(x.e||y.e)=true->(c.e||d.e)=true:=by simp only[Pl];exact Or.imp g n
 unfold uJ;split
 .exact .e _
 split
 .rename_i p;exact⟨h p,λ_=>id,id⟩
 split
 .refine⟨by simp only[Ng];exact And.imp b b1,λu=>?_,l⟩;simp only;split
  .rename_i e;rw[Zp (b e)];exact k u
  intro q;split
  .rw[IV,a u q];rfl
  exact a u q
 split
 .exact⟨by simp only[Pl];exact Or.imp b b1,k,l⟩
 split
 .exact⟨id,a,by simp only[Pl];exact Or.imp b g⟩
 split
 .exact⟨id,a,g⟩
 exact .e _
def E6{g S a p}(d:qQ g p)(h:∀v,v<g.nr+g.nb->S.j v=true->a.j v=true):Rc (Ns g S p) (Ns g a p) :=
 M.dH (.e _) (M.dF (.e _) λj b _ _ _ _=>E5 λc=>h _ (WE d ⟨j,b,c,rfl⟩))
def E7 g S p:(Ns g S p).f.OK :=
 M.dH (R:=λx _=>x.f.OK) (l':=M.stk (uJ g.nr S) (nd g p).e (nd g p).bl) NS.OK.f (M.dF NS.OK.f λ_ _ _ _ _ _=>CG)
def CT(g:Gr):Nat->Bool:=M.rnd (xj g) (g.nr+g.nb)
def S0(g:Gr):NS:=Ti (CT g) (g.nr+g.nb)
def Nu(g:Gr)(S:NS)(p:Nat):NS:=if p<g.nr+g.nb then (Ns g S p).f else nz
def UB(g:Gr):Nat->NS:=Nu g (S0 g)
def LB(g:Gr)(p:Nat):Prop:=M.Pk (RU (UB g)) (g.nr+g.nb) p p
def OB(g:Gr)(p:Nat):Prop:=(Ns g (S0 g) p).e=true
def LN{g}(a:M.Valid g){v}(b:v<g.nr+g.nb):(S0 g).j v=CT g v:=by
 have:=a.r2;have:=a.l2;unfold S0;rw[E4 _ _ _ oM oM];simp[b]
def Vp(g:Gr)(a b:Int):Prop:=(a=0/\b=0/\(∀q,q<g.nr+g.nb->¬LB g q)/\∀q,q<g.nr+g.nb->¬OB g q)\/3<=a
structure E8(g:Gr)(w:Wl)(e:Ending)(w':Wl):Prop where
 k:∃a b,Vp g a b/\e=Rt (.tuple #[Iv a,Iv b])
 q:Bw w w'
def E9 nr S o x y:(uJ nr S o x y).e=(if o.e=6 then x.g||x.e else if M.ar o.e=2 then x.e||y.e else if M.ar o.e=1 then x.e else false):=by
 unfold uJ;by_cases b:o.e=0
 .rw[Zp b,Zn (show ¬o.e=6 by omega),b];rfl
 rw[Zn b];by_cases h:M.bE o
 .rw[Zp h];rcases h with e|e<;>rw[e]<;>rfl
 rw[Zn h];by_cases c:o.e=4
 .rw[Zp c,Zn (show ¬o.e=6 by omega),c];rfl
 rw[Zn c];by_cases d:o.e=5
 .rw[Zp d,Zn (show ¬o.e=6 by omega),d];rfl
 rw[Zn d];by_cases a:o.e=6
 .rw[Zp a,Zp a]
 rw[Zn a,Zn a];by_cases f:o.e=7
 .rw[Zp f,f];rfl
 rw[Zn f];have j:¬M.ar o.e=2:=by unfold M.ar;split;omega;split<;>omega
 have i:¬M.ar o.e=1:=by unfold M.ar;split;omega;split;omega;omega
 rw[Zn j,Zn i]
end
section
open M (OpD ug Gr)
def CU(W1:Wl)(a n:Nat)(g:Gr)(S:NS)(c b:Vl)(wr:Wl):Prop :=
 ∃k:Nat,k<=n/\b=Iv (k:Int)/\c=Iv (-1)/\Row wr a 91 (n*4)/\Fq wr a 0 k (Nu g S)/\Below a W1 wr
def F0 Q ra la rc lc g w(hG:Ca Q w ra la g)(hs:vS g)(ay:AY ra la g rc lc)(L:M.Valid g)(hl:∀q,q<g.nr+g.nb->¬LB g q)(ho:∀q,q<g.nr+g.nb->¬OB g q) :
  Cs 8 #[.agg #[Sl ra g.nr rc,Sl la g.nb lc]] w λe w'=>e=Rt (.tuple #[Iv 0,Iv 0])/\Bw w w':=by
 have ao:=ua hl;have ap:=ua ho;have A:=ua L;have HG:=ua hG;have P:=ua hs;have af:=ua ay;go_enter func8,ntmps8;go_wp2_with fail;refine(D8 Q ra la rc lc g _ (HG.h (zO w)) P A).mono ?_;rintro e W1 ⟨rfl,r⟩;have D:=ue (a:=(Ad w.heap.size 0)) (v:=Sl ra g.nr rc) (cN w.heap.size rfl rfl) r;have E:=ue (a:=(Ad w.heap.size 1)) (v:=Sl la g.nb lc) (cN w.heap.size rfl rfl) r;have Z:=ua (uf (zO w) r);clear hl ho;have h1:=A.o.r2;have h2:=A.o.l2;have h0:=A.o.r1;go_wp2_with fail;refine(G0 Q ra la rc lc g _ (HG.o.h Z.o) h0 h1 h2).mono ?_;rintro e W2 ⟨⟨b,cap,rfl,hB⟩,r⟩;replace D:=ue D r;replace E:=ue E r;have B2:Hid (Bw w W2):=uf Z.o r;have H:Hid (Ej Q W2 b g (g.nr+g.nb)):=hB;clear r hB;obtain⟨n,I⟩:∃n,g.nr+g.nb=n:=⟨_,rfl⟩;have z:Hid (g.nr+g.nb=n):=I;rw[I]at H;rw[I];have ai:n<=200:=oM;have ah:0<n:=oM;clear I;go_wp2_with fail;refine(ucq Q ra la rc lc g b n cap _ A.o (ZX P.o) z.o H.o af.o).mono ?_;rintro e m ⟨⟨S,hS,hL,rfl⟩,r⟩;replace D:=ue D r;replace E:=ue E r;have B3:Hid (Bw w m):=uf B2.o r;have au:Hid S.OK:=hS;have ac:Hid (∀p,p<n->Rc (Ns g S p) (Ns g (S0 g) p)):=λp R=>E6 (yr A.o (oH z.o)) (λv L q=>by
  rw[LN A.o L];exact hL _ (M.eK (WG A.o)).b v L q)
 have O:Hid (Ej Q m b g n):=H.o.h r;have s3:w.heap.size<m.heap.size:=ud D;clear r hL hS;have ax:=WK n ai;have V:Hid (At (m.alloc (Ax S)) m.heap.size S):=At.a m S;have s4:Hid ((m.alloc (Ax S)).heap.size=m.heap.size+1):=by show _=_;simp
 go_wp2;rw[show(Obj.cells #[Uv S.a,Uv S.b,Uv S.c,Uv S.d] 91)=Ax S from rfl];have k0:((m.alloc (Ax S)).alloc (Oc (madeCells #[Uv 0,Uv 0,Uv 0,Uv 0] (n*4)) 91)).cell? (Ad w.heap.size 0)=some (Sl ra g.nr rc):=uG _ (uG _ D);have k1:((m.alloc (Ax S)).alloc (Oc (madeCells #[Uv 0,Uv 0,Uv 0,Uv 0] (n*4)) 91)).cell? (Ad w.heap.size 1)=some (Sl la g.nb lc):=uG _ (uG _ E);have X:Hid (At ((m.alloc (Ax S)).alloc (Oc (madeCells #[Uv 0,Uv 0,Uv 0,Uv 0] (n*4)) 91)) m.heap.size S):=V.o.h Bi;have R5:Hid (Row ((m.alloc (Ax S)).alloc (Oc (madeCells #[Uv 0,Uv 0,Uv 0,Uv 0] (n*4)) 91)) (m.heap.size+1) 91 (n*4)):=by
  have:=MS (m.alloc (Ax S)) #[Uv 0,Uv 0,Uv 0,Uv 0] (n*4) 91 sM;rw[s4.o]at this;exact this
 have N:Hid (Bw m ((m.alloc (Ax S)).alloc (Oc (madeCells #[Uv 0,Uv 0,Uv 0,Uv 0] (n*4)) 91))):=Bm m;generalize (m.alloc (Ax S)).alloc (Oc (madeCells #[Uv 0,Uv 0,Uv 0,Uv 0] (n*4)) 91)=C at *;have al:Hid (Ej Q C b g n):=O.o.h N.o;have B5:Hid (Bw w C):=uf B3.o N.o;have aw:b<m.heap.size:=by let⟨a,c,hc,_⟩:=O.o 0 ah;exact ud hc
 obtain⟨l,J⟩:∃x,m.heap.size=x:=⟨_,rfl⟩;rw[J]at X R5 aw s3;have aq:Hid (m.heap.size=l):=J;clear V s4 ax H al D E;rw[J];clear J;go_loopw [7,25] (λlv U wr=>CU C (l+1) n g S lv U wr) (λ_ U _=>n-(intOf U).toNat)
 .exact⟨0,zK,rfl,rfl,R5.o,λj hj=>aB hj (Ge _),zH _⟩
 obtain⟨k,hk,rfl,rfl,aj,ak,F⟩:=hrel;have ad:Hid (Row wr (l+1) 91 (n*4)):=aj;have ae:Hid (Fq wr (l+1) 0 k (Nu g S)):=ak;have aa:Hid (Below (l+1) C wr):=F;have Y:Hid (At wr l S):=X.o.y (F.block _ oM);have am:Hid (Bw w wr):=B5.o.trans (F.mono oM);have j0:wr.cell? (Ad w.heap.size 0)=some (Sl ra g.nr rc):=(F.cell (p:=(Ad w.heap.size 0)) (show w.heap.size<l+1 by omega)).trans k0;have j1:wr.cell? (Ad w.heap.size 1)=some (Sl la g.nb lc):=(F.cell (p:=(Ad w.heap.size 1)) (show w.heap.size<l+1 by omega)).trans k1;let⟨m0,m1,m2,m3⟩:=Y.o.b;have ls:=Y.o.lt;clear aj ak F;by_cases ag:k<n
 .let⟨a,c,a0,hO⟩:=(O.o.h (N.o.trans (aa.o.mono (oH aq.o)))) k ag;have HO:Hid (zM Q wr a (nd g k).bl (nd g k).e):=hO;have az:l+1<wr.heap.size:=by let⟨u,T⟩:=ad.o.p (i:=0) oM;exact ud T
  have a2:b<wr.heap.size:=oM;clear hO;go_wp2_with fail;refine(WS Q ra la a g.nr rc g.nb lc (nd g k).bl c (nd g k).e S _ HO.o (yr A.o (oH z.o)) (ZX P.o k (oH z.o)) (af.o S au.o)).mono ?_;rintro e W ⟨rfl,r⟩;have ab:Hid (M.top (M.stk (uJ g.nr S) (nd g k).e (nd g k).bl)=Ns g S k):=rfl;have an:=ua λq=>ap.o k (oH z.o) ((ac.o k ag).2.2 q);have G:Hid (Bw wr W):=r;have t:Hid (Row W (l+1) 91 (n*4)):=ad.o.a (r.block _ az);let⟨u0,r0⟩:=t.o.p (i:=k*4) oM;let⟨u1,r1⟩:=t.o.p (i:=k*4+1) oM;let⟨u2,r2⟩:=t.o.p (i:=k*4+2) oM;let⟨u3,r3⟩:=t.o.p (i:=k*4+3) oM;have z0:=t.o.n (k*4);have z1:=t.o.n (k*4+1);have z2:=t.o.n (k*4+2);have z3:=t.o.n (k*4+3);have a3:l+1<W.heap.size:=ud r0;clear r;generalize M.top (M.stk (uJ g.nr S) (nd g k).e (nd g k).bl)=v at *;unfold Jf;have rel:∀(x:Int) (o:Obj),x=((k+1:Nat):Int)->CU C (l+1) n g S (Iv (-1)) (Iv x) (((((W.setCell (Ad (l+1) (k*4)) (Uv v.f.a)).setCell (Ad (l+1) (k*4+1)) (Uv v.f.b)).setCell (Ad (l+1) (k*4+2)) (Uv v.f.c)).setCell (Ad (l+1) (k*4+3)) (Uv v.f.d)).alloc o):=λx o hx=>by
   show CU C (l+1) n g S (Iv (-1)) (Iv x) ((xu W (l+1) (k*4) v.f).alloc o);have RP:Row (xu W (l+1) (k*4) v.f) (l+1) 91 (n*4):=WI t.o;have BP:Below (l+1) C (xu W (l+1) (k*4) v.f):=WJ (aa.o.trans (G.o.mono oM)) zD;have sP:(xu W (l+1) (k*4) v.f).heap.size=W.heap.size:=(by unfold xu;simp only[uh]);refine⟨k+1,oM,by rw[hx],rfl,RP.a (Jo oM),λj hj=>?_,BP.alloc oM _⟩;have B:∀q:Nat,∀u,(xu W (l+1) (k*4) v.f).cell? (Ad (l+1) q)=some u->((xu W (l+1) (k*4) v.f).alloc o).cell? (Ad (l+1) q)=some u:=λq u h=>uG _ h;by_cases e:j=k
   .subst e;let⟨p0,p1,p2,p3⟩:=WH (s:=v.f) t (o:=j*4) oM;have T:Nu g S j=v.f:=(by unfold Nu;rw[Zp (oH z.o),ab.o]);rw[T];simp only[Bp];exact⟨B _ _ p0,B _ _ p1,B _ _ p2,B _ _ p3⟩
   let⟨q0,q1,q2,q3⟩:=(ae.h G) j oM;exact⟨B _ _ ((vR oM).trans q0),B _ _ ((vR oM).trans q1),B _ _ ((vR oM).trans q2),B _ _ ((vR oM).trans q3)⟩
  have av:=ua rel;clear rel;have a1:v.e=false:=by
   cases q:v.e with
   |false=>rfl
   |true=>exact absurd (by rw[<-ab.o];exact q) an
  go_wp2;go_roundw
  .exact av _ _ oM
  simp[intOf];omega
 obtain rfl:k=n:=oM;go_wp2_with fail;refine(ucn (l+1) 0 k k (Nu g S) _ ae.o (λi _=>by unfold Nu;split;exact E7 g S i;exact NS.OK.f) ah ai (λq hq h=>ao.o q (oH z.o) (by
  unfold LB;rw[z.o];refine M.Pk.h (λi j e=>?_) h;unfold RU UB Nu at *;by_cases R:i<g.nr+g.nb
  .rw[Zp R]at e ⊢;exact(ac.o i (oH z.o)).2.1 j e
  rw[Zn R]at e ⊢;exact e))).mono ?_
 rintro e W6 ⟨rfl,r⟩;have G:=ua (uf am r);clear r;go_wp2;refine zL (by simp[results,f8,go_sem];rfl) rfl ?_;exact⟨rfl,G⟩
end
namespace Y
open M (OpD ug Gr uw)
structure R(A:Np)(w:Wl)(j il m n:Nat)(st:List Cf)(ka:Oa)(kc:Nat)(la:Oa)(ln lc:Nat)(xa:Oa)(xn:Nat)(W:Wl):Prop where
 y:SY (Bx A w j) il m n st ka kc la ln lc xa xn W
 k:zA (λb=>¬A b) w W
 z:w.heap.size+j<=W.heap.size
def Xz(A:Np)(w:Wl)(i il m k:Nat)(P:Ew):Prop :=
 ∀(a:Int) (p n:Nat) (f t:Int) (d:Bool) (c l:Int) (st:List Cf) (b:Oa) (e:Nat) (la:Oa) (ln lc:Nat) (g:Oa) (h xc:Nat) (W:Wl),p<=il->R A w (i+1) il m n st b e la ln lc g h W->zG W (w.heap.size+i) Fl->P (Rt (.agg (yv a p b n e la ln lc f g h xc k t d c l))) W
section
variable {A:Np} {il m n j k:Nat} {st:List Cf} {ka:Oa} {kc:Nat} {la:Oa} {ln lc:Nat} {xa:Oa} {xn xc:Nat} {w W W' Z:Wl} {a f t K β:Int} {p:Nat} {γ:Bool} {P:Ew}
def SY.q(h:SY A il m n st ka kc la ln lc xa xn w)(k:Bw w W):SY A il m n st ka kc la ln lc xa xn W:=h.y (kA k)
def SY.r(h:SY A il m n st ka kc la ln lc xa xn w):n<=kc/\ln<=lc:=let⟨_,g⟩:=h.g;let⟨_,β,_⟩:=g.l;⟨kC g.k,kC β⟩
def R.c(h:SY A il m n st ka kc la ln lc xa xn w)(k:Bw w W)(a:w.heap.size+j<=W.heap.size):R A w j il m n st ka kc la ln lc xa xn W:=⟨h.p k a,kA k,a⟩
def R.q(h:R A w j il m n st ka kc la ln lc xa xn W)(k:Bw W W'):R A w j il m n st ka kc la ln lc xa xn W':=⟨h.y.q k,h.k.c (kA k),zP h.z k.size⟩
def R.set(h:R A w j il m n st ka kc la ln lc xa xn W)(b o:Nat)(v:Vl)(a:w.heap.size<=b)(c:b<w.heap.size+j):R A w j il m n st ka kc la ln lc xa xn (W.setCell (Ad b o) v) :=
 ⟨h.y.y (Dh (.inr ⟨a,c⟩)),⟨h.k.os,h.k.g,h.k.f,by rw[uh];exact h.k.l,λx p i=>(Gz x (λe=>by simp at e;omega)).trans (h.k.d x p i)⟩,by rw[uh];exact h.z⟩
def Lz(h:R A w j il m n st ka kc la ln lc xa xn W){b:Nat}{o:Nat}{v:Vl}:=R.set h b o v
def R.l(h:R A w j il m n st ka kc la ln lc xa xn W)(e:Nx A il m k w P)(b:p<=il):P (Rt (.agg (yv a p ka n kc la ln lc f xa xn xc k t γ K β))) W:=e _ _ _ _ _ _ _ _ _ _ _ _ _ _ _ _ _ _ b (h.y.h (λ_ q=>.inl q)) h.k
def R.nx{o p:Nat}{r:List Cf}{a:Oa}{d:Nat}{f:Oa}{i g:Nat}{s:Oa}{t:Nat}(h:R A w j il m n st ka kc la ln lc xa xn W)(y:SY (Bx A w j) il o p r a d f i g s t W')(k:zA (λb=>¬Bx A w j b) W W'):R A w j il o p r a d f i g s t W' :=
 ⟨y,h.k.c (k.h (λb q e=>q (.inl e))),zP h.z k.l⟩
def zG.own{b:Nat}{cs:Av}(h:zG W b cs)(k:zA (λb=>¬Bx A w j b) W W')(c:w.heap.size<=b)(e:b<w.heap.size+j):zG W' b cs:=h.a (k.d b h.x.2.2 (λq=>q (.inr ⟨c,e⟩)))
def R.d{i:Nat}(h:SY A il m n st ka kc la ln lc xa xn w)(j:Bw w Z)(a:zG Z (w.heap.size+i) Fl)(l:Xz A w i il m k P):SY (Bx A w (i+1)) il m n st ka kc la ln lc xa xn Z/\Nx (Bx A w (i+1)) il m k Z P:=by
 have e:R A w (i+1) il m n st ka kc la ln lc xa xn Z:=R.c h j a.x.2.2;exact⟨e.y,λ_ _ _ _ _ _ _ _ _ _ _ _ _ _ _ _ _ _ f g b=>l _ _ _ _ _ _ _ _ _ _ _ _ _ _ _ _ _ _ f (e.nx g b) (zG.own a b oM oM)⟩
def dE(e:Int)(h:SY A il m n st ka kc la ln lc xa xn w)(j:p<=il)(g:∀W,SY A il m n st ka kc la ln lc xa xn W->zA (λb=>¬A b) w W->P (Rt (.agg (yv a p ka n kc la ln lc f xa xn xc k t true e β))) W) :
  Cs 124 #[.agg (yv a p ka n kc la ln lc f xa xn xc k t γ K β),Iv e] w P:=by
 have i:=ua g;have H:=ua h;clear h g;unfold yv;go_enter func124,ntmps124;go_wp2;refine zL (v:=.agg (yv a p ka n kc la ln lc f xa xn xc k t true e β)) ?_ rfl ?_
 .simp[results,f124,go_sem]
 exact i.o _ (H.o.q (Bm w)) (kA (Bm w))
def eH(h:SY A il m n st ka kc la ln lc xa xn w)(s:∀(q:Bool) W,Bw w W->(q=true->0<n)->P (Rt (.bool q)) W):Cs 177 #[.agg (yv a p ka n kc la ln lc f xa xn xc k t γ K β)] w P:=by
 have o:=ua s;have j:=ua λx=>h.q (uk w x);have C:=h.sl;clear h s;unfold yv;go_enter func177,ntmps177;go_wp2;generalize g:w.alloc _=X;have r:Hid (Bw w X):=g▸zO w;have u:Hid (SY A il m n st ka kc la ln lc xa xn X):=g▸j.o _;have y:X.cell? (Ad w.heap.size 2)=some (Sl ka n kc):=g▸cN w.heap.size rfl rfl;have F:=ud y;clear g j;go_loopw [3] (λi wr=>(∃k:Nat,k<=n/\i=Iv k)/\wr=X) (λi _=>n-(intOf i).toNat)
 .exact⟨⟨0,zK,rfl⟩,rfl⟩
 obtain⟨⟨k,B,rfl⟩,E⟩:=hrel;subst wr;by_cases v:k<n
 .obtain⟨b,fr,rfl,_,⟨z,_⟩,_⟩:=u.o.fr v;have hlt':(k:Int)<(n:Int):=oM;cases D:(fr.e==1)
  .go_wp2;go_roundw
   .exact⟨⟨k+1,oM,by go_num⟩,trivial⟩
   simp[intOf];omega
  go_wp2;exact o.o _ _ r (λ_=>oM)
 obtain rfl:k=n:=oM;go_wp2;exact o.o _ _ r (λe=>by simp at e)
def uxN(kd:Int)(h:SY A il m n st ka kc la ln lc xa xn w)(j:∀(q:Bool) W,Bw w W->(q=true->0<n)->P (Rt (.bool q)) W):Cs 179 #[.agg (yv a p ka n kc la ln lc f xa xn xc k t γ K β),Iv kd] w P:=by
 have g:=ua j;have v:=h.sl;clear j;rcases Nn n with rfl|r
 .clear h;unfold yv;go_enter func179,ntmps179;go_wp2;exact g.o _ _ (zO w) (λe=>by simp at e)
 obtain⟨i,rfl⟩:∃i,n=i+1:=⟨n-1,oM⟩;obtain⟨b,fr,rfl,_,⟨o,_⟩,_⟩:=h.fr (Iy i);have lb:=ud o;have u:(i:Int)<((i+1:Nat):Int):=oM;have s:((i+1:Nat):Int)-1=(i:Int):=oM;clear h;unfold yv;go_enter func179,ntmps179;go_wp2;exact g.o _ _ (zO w) (λ_=>r)
def eG(h:SY A il m n st ka kc la ln lc xa xn w)(L:p<=il)(Q:Nx A il m k w P):Cs 178 #[.agg (yv a p ka n kc la ln lc f xa xn xc k t γ K β)] w P:=by
 have F:=ua Q;have H:=ua h;let⟨ae,ah⟩:=h.r;have hn:=h.sl;clear h Q;unfold yv;go_enter func178,ntmps178;go_wp2;generalize s:(w.alloc _).alloc _=X;have G:zG X w.heap.size (yv a p ka n kc la ln lc f xa xn xc k t γ K β):=s▸(um w _ 218).al _;have I:zG X (w.heap.size+1) Fl:=s▸uW _ Fl 218 _ sM;have Y:=ua (R.c (j:=2) H.o (s▸Bm w:Bw w X) (by rw[<-s];simp));have T:=ua G;have D:=ua I;clear G I s;go_loopw [3] (λi wr=>(∃j:Nat,j<=n/\i=Iv ((j:Int)-1))/\Bw X wr) (λi _=>(intOf i+1).toNat)
 .exact⟨⟨n,zD,rfl⟩,zH _⟩
 obtain⟨⟨j,hj,rfl⟩,u⟩:=hrel;have E:=ua u;have g:=ua (Y.o.q u);let⟨z,q1,lz⟩:=(T.o.on u).x;let⟨y,S,O⟩:=(D.o.on u).x;unfold yv at z;unfold Fl at y;clear u;rcases j with _|j
 .rw[show((0:Nat):Int)-1 = -1 from rfl];have ai:¬(0:Int)<=-1:=oM;clear y S O;go_wp2_with fail;refine dE 1 g.o.y L λW N C=>?_;let⟨y,S,O⟩:=(zG.own (D.o.on E.o) C oM oM).x;have B:=ua (g.o.nx N C);clear N C z q1 lz;unfold Fl at y;unfold yv;go_wp2;refine zL (v:=.agg (yv a p ka n kc la ln lc f xa xn xc k t true 1 β)) ?_ rfl ?_
  .simp[results,f178,go_sem, *]
  refine R.l (j:=2) (st:=st) ?_ F.o L;repeat with_reducible first|exact B.o|refine Lz ?_ oM oM
 have e:((j+1:Nat):Int)-1=(j:Int):=oM;rw[e];obtain⟨b,fr,rfl,_,⟨Z,c1,c2,c3⟩,ab,aa,J⟩:=SY.fr g.o.y (show j<n by omega);have lb:=ud Z;have hlt':(j:Int)<(n:Int):=oM;have ac:(0:Int)<=(j:Int):=oM;have af:(0:Int)<=(fr.a:Int):=oM;have ag:(fr.a:Int)<=(lc:Int):=oM;have ad:(j:Int)<=(kc:Int):=oM;have V:=ua J;clear J e;cases hq:(fr.e != 2) with
 |false =>
  go_wp2;go_roundw
  .exact⟨⟨j,oM,rfl⟩,uf E.o (zO wr)⟩
  simp[intOf]
 |true =>
  have U:=ua (SY.c g.o.y (show j<=n by omega) aa (V.o (by simpa using hq)));have B:Hid (R A w 2 il m j (st.take j) (Sm b 0) kc la fr.a lc xa xn wr):=⟨U.o,g.o.k,g.o.z⟩;go_wp2;refine zL (v:=.agg (yv fr.to fr.c (Sm b 0) j kc la fr.a lc f xa xn xc k t γ K β)) ?_ rfl ?_
  .simp[results,f178,go_sem, *]
  refine R.l (j:=2) (st:=st.take j) ?_ F.o ab;repeat with_reducible first|exact B.o|refine Lz ?_ oM oM|refine R.q ?_ Bi
end
end Y
section
open M (OpD ug Gr)
structure ZT(n ob:Nat)(out:Nat->Bool)(w:Wl)(e:Ending)(w':Wl):Prop where
 ret:∃v,e=Rt v
 g:w'.rowIs ob 4 n (λj=>.bool (out j))
 y:zA (λx=>x=ob) w w'
def Qn{w:Wl}{a n:Nat}{b:Nat->Bool}(h:w.rowIs a 4 n (λj=>.bool (b j))){f:Nat->Bool}(k:∀j,j<n->f j=b j):w.rowIs a 4 n (λj=>.bool (f j)):=h.congr (λj c=>by simp only[k j c])
def yC{w w' a n f}(h:w.rowIs a 4 n f)(k:Bw w w'):w'.rowIs a 4 n f:=h.of_block (k.block _ (yq h))
def BR nr S:∀T:TR,(T.a (uJ nr S)).g=T.a (M.fN nr S.j)
 |.lf o=>BA nr S o _ _
 |.un o x=>by show(uJ nr S o (x.a _) default).g=_;rw[BA,BR nr S x];rfl
 |.bn o x y=>by show(uJ nr S o (x.a _) (y.a _)).g=_;rw[BA,BR nr S x,BR nr S y];rfl
def qk(nr:Nat)(S:NS)(T:TR):NS:=(T.a (uJ nr S)).f
def un1{V w w' a}(h:Bw V w)(k:zA (λx=>x=a) w w')(b:V.heap.size<=a):Bw V w':=h.trans (k.below h.size (λx c e=>by have e:x=a:=e;omega))
def Sr(V:Wl)(ra la:Oa)(rc lc nr a f g mc d h:Nat)(S:NS)(Q:Np)(b:Nat)(T:TR):Prop :=
 ∀(off c l:Nat) (e:Nat->Bool) (w:Wl),l=T.n->T.Ok (M.bB nr a)->T.n<=c->T.n<=2000->TA Q V b T off->Bw V w->w.rowIs d 4 (nr+a) (λj=>.bool (e j)) ->
  Cs 76 #[.agg #[Sl ra nr rc,Sl la a lc],Sl (Sm b off) l c,Sl (Sm f g) (nr+a) mc,Sl (Sm d 0) (nr+a) h] w (ZT (nr+a) d (λj=>e j||(qk nr S T).j j) w)
section
variable {V:Wl} {Q:Np} {ra la:Oa} {rc lc nr nb mb mo mc ob oc b:Nat} {S:NS}
def uqY(J:nr<=100)(L:nb<=100)(o:OpD):Sr V ra la rc lc nr nb mb mo mc ob oc S Q b (.lf o):=by
 intro off c l ab w F E O T m B v;let⟨k,⟨sa,sc,H,U⟩,I⟩:=m.h B;have N:=ud k;obtain⟨s,g⟩:=E;have C:=g.2.2.2.2.1;have D:o.f<=1048576:=by have:=g.2.2.2.2.2;unfold M.bF at this;split at this<;>(try split at this)<;>omega
 have A:o.e=0\/o.e=1\/o.e=2\/o.e=3:=by have:=g.1;have:=g.2.1;unfold M.ar at s;split at s<;>(try split at s)<;>omega
 have p:=ua v;have aa:=yq v;subst F;simp only[TR.n]at *;by_cases d:M.bE o
 .have G:=KJ g d;have X:((M.tg nr o:Nat):Int)<((nr+nb:Nat):Int):=oM;have i:Hid (qk nr S (.lf o)=nz.n (M.tg nr o)):=by show _=_;rcases d with q|q<;>simp[qk,TR.a,uJ,M.bE,q]
  have m:=ua λ(W:Wl)=>kD ra la sa nr rc nb lc sc o W d C D oM;generalize qk nr S (.lf o)=z at *;rcases d with q|q;all_goals
   rw[q]at k m;go_enter func76,ntmps76;go_wp2_with (go_at_call 127;refine(m _).mono ?_;rintro e W ⟨rfl,t⟩;have u:=ua (uf (Bm w) t);have r:=ua (yC p u);have P:=r.cell G;have R:=r.frozen (M.tg nr o);let⟨Y,Z,k2⟩:=((uW _ _ _ (w.heap.size+1) sM:zG _ (w.heap.size+1) _).on t).x;clear t);go_end0;refine⟨⟨_,rfl⟩,(r.o.set (M.tg nr o) Bt).congr (λj y=>?_),(vC u).c (zA.b _ (Ad ob _) _ rfl)⟩;rw[i.o,AV oM oM,Sf];by_cases e:j=M.tg nr o<;>simp[e]
 have i:Hid (qk nr S (.lf o)=nz):=by
  show _=_;rcases A with q|q|q|q
  .simp[qk,TR.a,uJ,q]
  .simp[qk,TR.a,uJ,M.bE,q]
  .exact aB (.inl q) d
  exact aB (.inr q) d
 generalize qk nr S (.lf o)=z at *;rcases A with q|q|q|q
 .rw[q]at k;go_enter func76,ntmps76;go_wp2;go_end0;exact⟨⟨_,rfl⟩,Qn (yC p (Bm w)) (λj y=>by rw[i.o,Sf,Qx]),vC (Bm w)⟩
 .rw[q]at k;go_enter func76,ntmps76;go_wp2;go_end0;exact⟨⟨_,rfl⟩,Qn (yC p (Bm w)) (λj y=>by rw[i.o,Sf,Qx]),vC (Bm w)⟩
 .exact aB (.inl q) d
 exact aB (.inr q) d
def uqZ(aa:V.heap.size<=ob)(o:OpD)(x:TR)(N:Sr V ra la rc lc nr nb mb mo mc ob oc S Q b x):Sr V ra la rc lc nr nb mb mo mc ob oc S Q b (.un o x):=by
 intro off c l P w B A J L z p g;have G:=ua z;let⟨hx,y,⟨sa,sc,U,ab⟩,Y⟩:=z.h p;have Z:=ud y;have T:=ua g;have ac:=yq g;have f:o.e=6\/o.e=7:=by have:=A.1;unfold M.ar at this;split at this<;>(try split at this)<;>omega
 have H:Hid (qk nr S (.un o x)=qk nr S x):=by show _=_;rcases f with q|q<;>simp[qk,TR.a,uJ,M.bE,q]
 simp only[TR.n]at J L B;have nx:=x.n0;have I:=ua λ(W:Wl) (k:Bw w W)=>N off c x.n P W rfl A.2.2 oM oM G.1 (p.trans (k.mono p.size)) (yC g k);generalize qk nr S (.un o x)=r at *;generalize qk nr S x=u at *;generalize x.n=m at *;subst B;have x2:((m+1:Nat):Int)-1=(m:Int):=oM;have x3:(m:Int)<((m+1:Nat):Int):=oM;have z3:m<=c:=oM;have z5:¬c=0:=oM;have z6:=uB m oM;rcases f with q|q;all_goals
  rw[q]at y;go_enter func76,ntmps76;go_wp2;generalize s:(w.alloc _).alloc _=X;have t:Hid (Bw w X):=s▸Bm w;have R:=ua (s▸(Eb w).al _:zG X w.heap.size #[Sl ra nr rc,Sl la nb lc]);have D:=ua (s▸uW _ _ _ (w.heap.size+1) sM:zG X (w.heap.size+1) _);let⟨y0,y1,y2⟩:=R.x;have O:=D.x.2.2;go_region_with (go_at_call 76;refine(I _ t.drew).mono ?_;rintro e W2 ⟨⟨v,rfl⟩,C,f⟩;have F:=ua C;have E:=ua f;let⟨z0,z1,z2⟩:=(D.a (f.d _ O (show ¬(w.heap.size+1=ob) by omega))).x;clear C f);all_goals go_wp2
  all_goals go_end0
  all_goals exact⟨⟨_,rfl⟩,Qn F (λj hj=>by rw[H.o]),((vC t).c (Ik X)).c E⟩
def uq0(h1:nr<=100)(h2:nb<=100)(hM:Cd V mb mo (nr+nb) S.j)(ad:V.heap.size<=ob)(o:OpD)(x y:TR)(ix:Sr V ra la rc lc nr nb mb mo mc ob oc S Q b x)(iy:Sr V ra la rc lc nr nb mb mo mc ob oc S Q b y):Sr V ra la rc lc nr nb mb mo mc ob oc S Q b (.bn o x y):=by
 intro off c l af w T hk hc hn O P hR;have HT:=ua (O.h P);have G:=ua hk;have HR:=ua hR;have Z:=ua P;have aj:=yq hR;let⟨_,_,N,⟨sa,sc,c1,ah⟩,c2⟩:=O.h P;obtain⟨hx,hy,_⟩:=O;have nx:=x.n0;have ny:=y.n0;simp only[TR.n]at hc hn T;let⟨m,U⟩:=nm (x.n+y.n);rw[U]at N c1 c2 hc hn T;have HM:=ua U;subst T;let⟨j,t⟩:=nm x.n;have p:=ua t;rw[t]at nx U;have x2:((m+1:Nat):Int)-1=(m:Int):=oM;have x3:(m:Int)<((m+1:Nat):Int):=oM;have f1:m<c:=oM;have f2:m<=c:=oM;have f3:¬c=0:=oM;have z6:=uB m oM;have ag:=ud N;have jm:(j:Int)<(m:Int):=oM;have ai:(j:Int)<=(m:Int):=oM;have f4:¬c=j:=oM;have f5:j<=m:=oM;have f6:j<=c:=oM;have JX:=ua λ(W:Wl) (k:Bw V W)=>ix off c j af W p.symm G.2.2.1 (oH p) (oH p) hx k;have JY:=ua λ(W:Wl) (k:Bw V W) (ou:Nat->Bool)=>iy (off+j*3) (c-j) (m-j) ou W oM G.2.2.2 oM oM (t▸hy) k;have JN:=ua λ(W:Wl) (k:Bw V W)=>KF h1 h2 x off c j W p.symm G.2.2.1 (oH p) (oH p) (hx.h k) (hM.h k) (ra:=ra) (la:=la) (rc:=rc) (lc:=lc) (mc:=mc);have f:o.e=4\/o.e=5:=by have:=hk.1;unfold M.ar at this;split at this<;>(try split at this)<;>omega
 rw[<-BR nr S x]at JN;have F:Hid (∀i,(qk nr S (.bn o x y)).j i=((qk nr S x).j i||((o.e==5||(x.a (uJ nr S)).g)&&(qk nr S y).j i))):=λi=>by rcases f with q|q<;>cases hz:(x.a (uJ nr S)).g<;>simp[qk,TR.a,uJ,M.bE,q,hz,IV]
 generalize qk nr S (.bn o x y)=r at *;generalize qk nr S x=u at *;generalize qk nr S y=v at *;generalize (x.a (uJ nr S)).g=z at *;rcases f with q|q;all_goals
  rw[q]at N F;go_enter func76,ntmps76;go_wp2_with fail;refine(yM (HT.h (Bm w)) G HM oM).mono ?_;rintro e W ⟨rfl,hw⟩;subst W;rw[p.o];go_wp2;generalize R:(w.alloc _).alloc _=X;have A:Hid (Bw w X):=R▸Bm w;have Y:=ua (Z.trans (A.drew.mono Z.size));have xg:=ua (R▸(Eb w).al _:zG X w.heap.size #[Sl ra nr rc,Sl la nb lc]);have xo:=ua (R▸uW _ _ _ (w.heap.size+1) sM:zG X (w.heap.size+1) _);let⟨y0,y1,y2⟩:=xg.x;have ae:=xo.x.2.2;go_region_with (go_at_call 76;refine(JX _ Y (yC HR A.drew)).mono ?_;rintro e W2 ⟨⟨v2,rfl⟩,aa,f⟩;have J:=ua aa;have H:=ua f;have E:=ua (un1 Y f ad);let⟨z0,z1,z2⟩:=(xo.a (f.d _ ae (show ¬(w.heap.size+1=ob) by omega))).x;have ab:=ua (xg.a (f.d _ y2 (show ¬(w.heap.size=ob) by omega)));let⟨u0,u1,u2⟩:=ab.x;clear aa f);all_goals go_wp2
  all_goals first
   |(go_region
     all_goals go_wp2
     all_goals go_region_with (go_at_call 76;refine(JY _ E.drew.drew _ (yC J (zH W2).drew.drew)).mono ?_;rintro e W4 ⟨⟨v4,rfl⟩,C,B⟩;have L:=ua C;have I:=ua B;clear C B)
     all_goals go_wp2
     all_goals go_end0
     all_goals exact⟨⟨_,rfl⟩,Qn L (λj t=>by rw[F.o];simp[Bool.or_assoc]),((((vC A).c (Ik X)).c H).c (vC (zH W2).drew.drew)).c I⟩)
   |(go_region_with (go_at_call 135;refine(JN _ E.drew).mono ?_;rintro e W3 ⟨rfl,s⟩;have s:=(zH W2).drew.trans s;have D:=ua s;have ac:=ua (E.trans (s.mono E.size));let⟨t0,t1,t2⟩:=(ab.on s).x;clear s)
     cases z
     .go_wp2;go_end0;exact⟨⟨_,rfl⟩,Qn (yC J D) (λj t=>by rw[F.o];simp),(((vC A).c (Ik X)).c H).c (vC D)⟩
     go_wp2;go_region_with (go_at_call 76;refine(JY _ ac.drew _ (yC J D.drew)).mono ?_;rintro e W4 ⟨⟨v4,rfl⟩,C,B⟩;have L:=ua C;have I:=ua B;clear C B);all_goals go_wp2
     all_goals go_end0
     all_goals exact⟨⟨_,rfl⟩,Qn L (λj t=>by rw[F.o];simp[Bool.or_assoc]),(((((vC A).c (Ik X)).c H).c (vC D)).c (Ik W3)).c I⟩)
def utm(c:nr<=100)(d:nb<=100)(f:Cd V mb mo (nr+nb) S.j)(e:V.heap.size<=ob)(T:TR):Sr V ra la rc lc nr nb mb mo mc ob oc S Q b T:=by
 induction T with
 |lf o=>exact uqY c d o
 |un o x a=>exact uqZ e o x a
 |bn o x y a g=>exact uq0 c d f e o x y a g
end
end
section
open M (OpD ug Gr)
def Xt(nr:Nat)(mk:Nat->Bool)(B:Nat->OpD)(i:Nat):Prop:=(B i).e=6/\M.top (M.stk (M.fN nr mk) B i)=true
def lpI(X:Wl)(n:Nat)(P:Np)(a:Vl)(wr:Wl):Prop :=
 ∃k:Nat,1<=k/\(k<=n\/k=1)/\a=Iv (k:Int)/\(∀i,i<k->¬P i)/\Bw X wr
def utq{α}[Inhabited α](f:OpD->α->α->α)(B:Nat->OpD)(k n:Nat)(a:M.Fed B n)(m:k<n)(i:(B k).e=6) :
  ∃s y,s<k/\M.stk f B k=(s,y)::M.stk f B s/\M.dep B s+1=M.dep B k/\∀j,s<j->j<=k->M.dep B k<=M.dep B j:=by
 have l:=a k m;rw[i,M.ar6]at l;have b:=M.bO f B k (a.h oM);match hs:M.stk f B k with
 |[]=>rw[hs]at b;simp at b;omega
 |(s,y)::r =>
  let⟨d,c,g⟩:=M.cC f B k (a.h oM) s y r hs;have l2:=M.bO f B s (a.h oM);rw[hs]at b;rw[<-c]at l2;simp at b;exact⟨s,y,d,by rw[c],oM,g⟩
def ulj{Q ra la nr rc c lc b off n c' k s m o mc B mk y w}(p:nr<=100)(q:c<=100)(D:n<=2000)(g:M.bC nr c n B)(u:k<=n)(E:s<=k)(l:M.stk (M.fN nr mk) B k=(s,y)::M.stk (M.fN nr mk) B s)(t:∀i,i<n->Em Q w b (off+i*3) (B i))(z:k-s<=c')(r:Cd w m o (nr+c) mk) :
  Cs 135 #[.agg #[Sl ra nr rc,Sl la c lc],Sl (Sm b (off+s*3)) (k-s) c',Sl (Sm m o) (nr+c) mc] w (BY y w):=by
 have v:M.stk (λ_ _ _=>()) B k=(s,())::M.stk (λ_ _ _=>()) B s:=by
  rw[M.dN (M.fN nr mk) (λ_ _ _=>()) (λ_=>()) rfl (λ_ _ _=>rfl) B k,M.dN (M.fN nr mk) (λ_ _ _=>()) (λ_=>()) rfl (λ_ _ _=>rfl) B s,l];rfl
 let⟨T,e,f,d⟩:=C4 k s (M.Fed.h g.2.1 u) (λi A=>g.1 i oM) v;have x:y=T.a (M.fN nr mk):=by
  have:=Xy (M.fN nr mk) T s f d;rw[e,l]at this;injection this with h _;injection h
 rw[x];exact KF p q T (off+s*3) c' (k-s) w oM f oM oM (Ly d (λj C=>t (s+j) oM)) r
def ujx Q ra la a nr rc d lc n c B O P mc mk w(h1:nr<=100)(h2:d<=100)(hn:n<=2000)(hc:n<=c)(G:zM Q w a n B)(N:n=0\/M.bC nr d n B)(H:Cd w O P (nr+d) mk) :
  Cs 77 #[.agg #[Sl ra nr rc,Sl la d lc],Sl a n c,Sl (Sm O P) (nr+d) mc] w (Qq (∃i,i<n/\Xt nr mk B i) w):=by
 have T:=ua G;have V:=ua H;have U:=ua N;have Y:Hid (Bw w (w.alloc (Oc #[Sl ra nr rc,Sl la d lc] 34))):=zO w;have ab:(w.alloc (Oc #[Sl ra nr rc,Sl la d lc] 34)).cell? (Ad w.heap.size 0)=some (Sl ra nr rc):=cN w.heap.size rfl rfl;have ac:(w.alloc (Oc #[Sl ra nr rc,Sl la d lc] 34)).cell? (Ad w.heap.size 1)=some (Sl la d lc):=cN w.heap.size rfl rfl;clear G H N;go_enter func77,ntmps77;go_wp2;generalize w.alloc (Oc #[Sl ra nr rc,Sl la d lc] 34)=X at *;go_loopw [7] (λu wr=>lpI X n (Xt nr mk B) u wr) (λu _=>n-(intOf u).toNat)
 .refine⟨1,zD,.inr rfl,rfl,λi g q=>?_,zH _⟩;obtain rfl:i=0:=oM;have:=q.2;simp[M.stk,M.top]at this
 obtain⟨k,ae,hk,rfl,L,l⟩:=hrel;have p:Hid (∀i,i<k->¬Xt nr mk B i):=L;have x:Hid (Bw X wr):=l;have g0:=ue ab l;have g1:=ue ac l;have m:Hid (Bw w wr):=uf Y.o l;clear L l;by_cases t:k<n
 .obtain⟨b,off,rfl,hq,r⟩:∃b off,a=some (Ad b off)/\Q b/\∀i,i<n->Em Q wr b (off+i*3) (B i):=by
   rcases(T.o.h m.o) with q|q
   .omega
   exact q
  have A:Hid (∀i,i<n->Em Q wr b (off+i*3) (B i)):=r;have I:M.bC nr d n B:=by
   rcases U.o with q|q
   .omega
   exact q
  have z:Hid (M.bC nr d n B):=I;let⟨c0,_,_⟩:=r k t;have ad:b<wr.heap.size:=ud c0;clear r I hq;by_cases f:(B k).e=6
  .have f6:((B k).e==6)=true:=(by simp[f]);have o:Hid ((B k).e=6):=f;let⟨s,y,aa,st,D,E⟩:=utq (M.fN nr mk) B k n z.o.2.1 t f;have Z:Hid (M.stk (M.fN nr mk) B k=(s,y)::M.stk (M.fN nr mk) B s):=st;have R:Hid (M.dep B s+1=M.dep B k):=D;have S:Hid (∀j,s<j->j<=k->M.dep B k<=M.dep B j):=E;have C:Hid (M.top (M.stk (M.fN nr mk) B k)=y):=(by show _=_;rw[st];rfl);have z1:¬c=s:=oM;have z2:s<=k:=oM;have z3:k<=c:=oM;have z4:s<=c:=oM;have z5:¬c=0:=oM;have z6:=uB k oM;have z7:=uB s oM;clear f st D E;go_wp2;go_region_with (first|(go_at_call 118;refine(KK b off n c B _ Q (λi g=>(A.o i g).h (zH wr).drew) oM k s oM aa R.o S.o).mono ?_;rintro e W ⟨rfl,hw⟩;subst W)|(go_at_call 135;refine(ulj h1 h2 hn z.o oM oM Z.o (λi g=>(A.o i g).h (zH wr).drew) oM (V.o.h m.o.drew)).mono ?_;rintro e W2 ⟨rfl,J⟩;have v:Hid (Bw wr W2):=(zH wr).drew.trans J;clear J));all_goals (cases y;(case' false=>go_wp2;go_roundw;(case rel=>exact⟨k+1,oM,.inl oM,by go_num,λi g q=>if e:i=k then (by subst e;have F:=q.2;rw[C.o]at F;cases F) else p.o i oM q,uf x.o v.o⟩);(case measure=>simp[intOf];omega));(case' true=>go_wp2;go_ret;exact⟨⟨_,rfl,λ_=>⟨k,t,o.o,C.o⟩,λ_=>rfl⟩,uf m.o v.o⟩))
  have f6:((B k).e==6)=false:=by simp[f]
  have o:Hid (¬(B k).e=6):=f;clear f;go_wp2;go_region;go_wp2;go_roundw
  .exact⟨k+1,oM,.inl oM,by go_num,λi g q=>if e:i=k then o.o (e▸q.1) else p.o i oM q,x.o.drew⟩
  simp[intOf];omega
 go_wp2;go_ret;refine⟨⟨_,rfl,?_⟩,m.o⟩;simp;exact λi g q=>p.o i oM q
end
section
open M (OpD ug Gr)
structure Ip(w:Wl)(B sb:Nat)(rb:Nat->Nat)(m n:Nat)(T:Nat->Nat->Bool):Prop where
 q:∀i,i<m->w.cell? (Ad sb i)=some (Sl (Sm (rb i) 0) n n)
 g:∀i,i<m->w.rowIs (rb i) 4 n (λj=>.bool (T i j))
 inj:∀i j,i<m->j<m->rb i=rb j->i=j
 a:∀i,i<m->sb<rb i
 lo:B<=sb
def Uz(T:Nat->Nat->Bool)(i j:Nat):Nat->Nat->Bool:=λa b=>if a=i/\b=j then true else T a b
def Ip.set{w B d rb m n T}(h:Ip w B d rb m n T){i}(k:i<m)j:Ip (w.setCell (Ad (rb i) j) Bt) B d rb m n (Uz T i j):=by
 refine⟨λa c=>?_,λa c=>?_,h.inj,h.a,h.lo⟩
 .have:=h.a i k;rw[yP (show rb i≠d by omega)];exact h.q a c
 by_cases e:a=i
 .subst e;refine((h.g a c).set j Bt).congr (λb l=>?_);unfold Uz;by_cases f:b=j
  .simp[f]
  simp[f]
 have o:rb a≠rb i:=λq=>e (h.inj a i c k q);refine((h.g a c).setOther (a:=(Ad (rb i) j)) o Bt).congr (λb l=>?_);unfold Uz;simp[e]
def Ip.p{w B c rb m n T}(h:Ip w B c rb m n T){i j}(a:i<m)(b:j<n):w.cell? (Ad (rb i) j)=some (.bool (T i j)):=(h.g i a).cell b
def Ip.r{w B b rb m n T}(h:Ip w B b rb m n T){i}(a:i<m)j:w.frozen? (Ad (rb i) j)=false:=(h.g i a).frozen j
def Ib(T c:Nat->Nat->Bool)(i k j:Nat):Prop:=∀a b,c a b=if a=i/\b<j then T a b||(T i k&&T k b) else T a b
def Ib.f T i k:Ib T T i k 0:=λa b=>by simp
def Ib.ik{T a i k j}(h:Ib T a i k j):a i k=T i k:=by
 rw[h i k];split
 .cases T i k<;>simp
 rfl
def Ib.kj{T a i k j}(h:Ib T a i k j):a k j=T k j:=by
 rw[h k j,Zn (λq=>Nq _ q.2)]
def Ib.b{T d i k j}(h:Ib T d i k j)(e:T k j=false):Ib T d i k (j+1):=λa b=>by
 rw[h a b];by_cases c:a=i/\b<j
 .rw[Zp c,Zp ⟨c.1,oM⟩]
 rw[Zn c];by_cases f:a=i/\b<j+1
 .rw[Zp f];obtain rfl:b=j:=oM;rw[e];simp
 rw[Zn f]
def Ib.n{T f i k j}(h:Ib T f i k j)(e:T k j=true)(g:T i k=true):Ib T (Uz f i j) i k (j+1):=λa b=>by
 unfold Uz;by_cases c:a=i/\b=j
 .rw[Zp c,Zp ⟨c.1,oM⟩,c.2,e,g];simp
 rw[Zn c,h a b];by_cases d:a=i/\b<j
 .rw[Zp d,Zp ⟨d.1,oM⟩]
 rw[Zn d,Zn oM]
def Iq(T c:Nat->Nat->Bool)(n k i:Nat):Prop:=∀a b,b<n->c a b=if a<i then T a b||(T a k&&T k b) else T a b
def Iq.f T n k:Iq T T n k 0:=λa b _=>by simp
def Iq.kb{T a n k i}(h:Iq T a n k i){b}(c:b<n):a k b=T k b:=by
 rw[h k b c];split
 .cases T k b<;>simp
 rfl
def Iq.a{T d g n k i j}(r:k<n)(h:Iq T d n k i)(c:Ib d g i k j)(f:j=n\/d i k=false):Iq T g n k (i+1):=λa b e=>by
 have l:d i k=T i k:=by rw[h i k r,Zn oM]
 rw[c a b];by_cases p:a=i
 .subst p;rw[Zp (show a<a+1 by omega)];have m:d a b=T a b:=by rw[h a b e,Zn oM]
  split
  .rw[m,l,h.kb e]
  rename_i s;rw[m];rcases f with rfl|f
  .exact aB ⟨rfl,e⟩ s
  rw[<-l,f];simp
 rw[Zn (λq=>p q.1),h a b e];by_cases o:a<i
 .rw[Zp o,Zp oM]
 rw[Zn o,Zn oM]
def Iq.e{R T b n k}(h:M.Warsh R n k T)(f:k<n)(r:Iq T b n k n):M.Warsh R n (k+1) b :=
 h.a f (λi j c d=>by rw[r i j d,Zp c])
end
section
open M (OpD ug Gr)
def utr:(prog.info? 147).map (λi=>(i.zero,i.size,i.bytes))=some (some nS,1,24):=rR
def ufy(Q:Np)(V:Wl)(ra la a:Oa)(nr rc d lc n c N:Nat)(B:Nat->OpD)(o p mc e F:Nat)(S:NS)(l:Nat->Bool)(w:Wl)(x:nr+d=N)(s:nr<=100)(t:d<=100)(H:n<=2000)(G:n<=c)(h:zM Q V a n B)(k:n=0\/M.bC nr d n B)(v:Cd V o p N S.j)(E:V.heap.size<=e)(z:Bw V w)(m:w.rowIs e 4 N (λj=>.bool (l j))) :
  Cs 76 #[.agg #[Sl ra nr rc,Sl la d lc],Sl a n c,Sl (Sm o p) N mc,Sl (Sm e 0) N F] w (ZT N e (λj=>l j||(M.top (M.stk (uJ nr S) B n)).f.j j) w):=by
 subst x;by_cases g:n=0
 .subst g;have r:=ua m;go_enter func76,ntmps76;go_wp2;go_end0;exact⟨⟨_,rfl⟩,Qn (yC r (zO w)) (λj C=>by rw[show(M.top (M.stk (uJ nr S) B 0)).f=nz from rfl,Sf,Qx]),vC (zO w)⟩
 rcases k with q|k
 .exact aB q g
 rcases h with q|⟨b,off,rfl,I,h⟩
 .exact aB q g
 let⟨T,y,D,u,A⟩:=qT k;have:=Ly (off:=off) (i:=0) u (λj C=>by rw[Bp];exact h j oM);rw[Gf,Dy]at this;rw[A];exact utm s t v E T off c n l w y.symm D oM oM this z m
def uts{g p}(k:qQ g p)(h:OB g p):∃i,i<(nd g p).bl/\Xt g.nr (S0 g).j (nd g p).e i:=by
 unfold OB Ns at h;rcases k with c|b
 .rw[c]at h;cases h
 let⟨i,_,d,f,a⟩:=M.fD (uJ g.nr (S0 g)) (nd g p).e Fs.e Fs.g (E9 g.nr (S0 g)) (nd g p).bl 0 _ b.2.1 (BW _ _ _ b.2) h;rw[WR]at a;exact⟨i,d,f,a⟩
def un5 Q ra la a nr rc b lc n c N B d e mc mk w(k:nr+b=N)(f:nr<=100)(g:b<=100)(m:n<=2000)(l:n<=c)(h:zM Q w a n B)(o:n=0\/M.bC nr b n B)(j:Cd w d e N mk) :
  Cs 77 #[.agg #[Sl ra nr rc,Sl la b lc],Sl a n c,Sl (Sm d e) N mc] w (Qq (∃i,i<n/\Xt nr mk B i) w):=by
 subst k;exact ujx Q ra la a nr rc b lc n c B d e mc mk w f g m l h o j
def Qo(rb:Nat->Nat)(n k:Nat)(i:Nat):Vl:=if i<k then Sl (Sm (rb i) 0) n n else nS
def ulk{w:Wl}{a n k c:Nat}{rb:Nat->Nat}(h:w.rowIs a 147 n (Qo rb n k)):(w.setCell (Ad a k) (Sl (Sm c 0) n n)).rowIs a 147 n (Qo (λi=>if i=k then c else rb i) n (k+1)):=by
 refine(h.set k _).congr λi _=>?_;unfold Qo;by_cases e:i=k
 .subst e;simp
 rw[Zn e];by_cases b:i<k
 .rw[Zp b,Zp oM];simp[e]
 rw[Zn b,Zn oM]
structure Lx(w:Wl)(sb:Nat)(rb:Nat->Nat)(k n:Nat)(R:Nat->Nat->Bool):Prop where
 q:w.rowIs sb 147 n (Qo rb n k)
 g:∀i,i<k->w.rowIs (rb i) 4 n (λj=>.bool (R i j))
 inj:∀i j,i<k->j<k->rb i=rb j->i=j
 a:∀i,i<k->sb<rb i
def Lx.b{w c rb n R}(h:Lx w c rb n n R):Ip w c c rb n n R :=
 ⟨λi d=>by rw[h.q.cell d];simp[Qo,d],h.g,h.inj,h.a,zD⟩
def stI(W4:Wl)(a n:Nat)(R:Nat->Nat->Bool)(b:Vl)(wr:Wl):Prop :=
 ∃(k:Nat) (rb:Nat->Nat),k<=n/\b=Iv (k:Int)/\Lx wr a rb k n R/\Below a W4 wr
end
def kI(b:Wl)(a:Nat)(rb:Nat->Nat)(n:Nat)(R:Nat->Nat->Bool)(c:Vl)(wr:Wl):Prop :=
 ∃(k:Nat) (T:Nat->Nat->Bool),k<=n/\c=Iv (k:Int)/\M.Warsh R n k T/\Ip wr a a rb n n T/\Below (a+1) b wr
def iI(c:Wl)(a:Nat)(rb:Nat->Nat)(n k:Nat)(T:Nat->Nat->Bool)(d:Vl)(wr:Wl):Prop :=
 ∃(i:Nat) (b:Nat->Nat->Bool),i<=n/\d=Iv (i:Int)/\Iq T b n k i/\Ip wr a a rb n n b/\Below (a+1) c wr
def jI(c:Wl)(a:Nat)(rb:Nat->Nat)(n k i:Nat)(T:Nat->Nat->Bool)(d:Vl)(wr:Wl):Prop :=
 ∃(j:Nat) (b:Nat->Nat->Bool),j<=n/\d=Iv (j:Int)/\Ib T b i k j/\Ip wr a a rb n n b/\Below (a+1) c wr
def seI(a:Wl)(n:Nat)(P:Np)(b:Vl)(wr:Wl):Prop :=
 ∃k:Nat,k<=n/\b=Iv (k:Int)/\(∀q,q<k->¬P q)/\wr=a
def lkC(a:Wl)(n:Nat)(P:Np)(b:Vl)(wr:Wl):Prop :=
 ∃k:Nat,k<=n/\b=Iv (k:Int)/\(∀q,q<k->¬P q)/\Bw a wr
def ulf Q ra la rc lc g w(hG:zV Q w ra la g)(hs:vS g) :
  Cs 27 #[.agg #[Sl ra g.nr rc,Sl la g.nb lc]] w (E8 g w):=by
 have HG:=ua hG;have HS:=ua hs;clear hG hs;go_enter func27,ntmps27;go_wp2_with fail;refine(qS Q ra la rc lc g _ (HG.a.h (zO w)) HS).mono ?_;rintro e W1 ⟨⟨r,rfl,W⟩,y⟩;have L:=ue (a:=(Ad w.heap.size 0)) (v:=Sl ra g.nr rc) (cN w.heap.size rfl rfl) y;have R:=ue (a:=(Ad w.heap.size 1)) (v:=Sl la g.nb lc) (cN w.heap.size rfl rfl) y;have B1:=ua (uf (zO w) y);clear y;cases r with
 |false =>
  clear W;go_wp2;refine zL (by simp[results,f27,go_sem];rfl) rfl ?_;exact⟨⟨4,0,.inr dC,rfl⟩,B1⟩
 |true =>
  have E:=ua (W.1 rfl);clear W;have h1:=E.r2;have h2:=E.l2;have h0:=E.r1;obtain⟨n,hn⟩:∃n,g.nr+g.nb=n:=⟨_,rfl⟩;have s:=ua hn;have bz:n<=200:=oM;have bx:0<n:=oM;clear hn;go_wp2_with fail;refine(KI ra la g.nr rc g.nb lc _ h1 h2).mono ?_;rintro e W2 ⟨rfl,y⟩;rw[s.o];replace L:=ue L y;replace R:=ue R y;have B2:=ua (uf B1 y);clear y;go_wp2_with fail;refine(ue8 Q ra la rc lc g _ (HG.h B2) E (KG E.a)).mono ?_;rintro e m ⟨⟨mb,bo,rfl,ai⟩,y⟩;rw[s.o]at ai;rw[s.o];replace L:=ue L y;replace R:=ue R y;have B3:=ua (uf B2 y);have HM:Hid (Cd m mb 0 n (S0 g).j):=λi o=>by
   rw[Bp,ai.cell o,LN E.o (oH s.o)];unfold CT;rw[s.o]
  have bs:=yq ai;have s3:=ud L;clear y ai bo;have bp:=run_make_row' (P:=prog) 149 147 nS 24 underlying149 utr rfl .i64 .i64 n oM oM;have bw:=run_make_row' (P:=prog) 147 4 Bf 1 underlying147 Xr rfl .i64 .i64 n oM oM;go_wp2;have G0:(m.alloc (Oc (madeCells #[nS] n) 147)).cell? (Ad w.heap.size 0)=some (Sl ra g.nr rc):=uG _ L;have G1:(m.alloc (Oc (madeCells #[nS] n) 147)).cell? (Ad w.heap.size 1)=some (Sl la g.nb lc):=uG _ R;have R4:Hid ((m.alloc (Oc (madeCells #[nS] n) 147)).rowIs m.heap.size 147 n (Qo (λ_=>0) n 0)):=(Kh m _ n 147).congr (λi _=>by simp[Qo]);have af:Hid (Bw m (m.alloc (Oc (madeCells #[nS] n) 147))):=zO m;generalize m.alloc (Oc (madeCells #[nS] n) 147)=W4 at *;have B4:=ua (uf B3 af);obtain⟨l,aj⟩:∃x,m.heap.size=x:=⟨_,rfl⟩;have aq:Hid (m.heap.size=l):=aj;have ay:Hid (zV Q m ra la g):=HG.h B3;rw[aj]at R4 bs s3;rw[aj];clear aj L R bp;go_loopw [7] (λt wr=>stI W4 l n (RU (UB g)) t wr) (λt _=>n-(intOf t).toNat)
  .exact⟨0,λ_=>0,zK,rfl,⟨R4,λi o=>aB o (Ge _),λi j o=>aB o (Ge _),λi o=>aB o (Ge _)⟩,zH _⟩
  obtain⟨k,rb,hk,rfl,av,z⟩:=hrel;have D:=ua av;have aa:=ua z;have j0:wr.cell? (Ad w.heap.size 0)=some (Sl ra g.nr rc):=(z.cell (p:=(Ad w.heap.size 0)) (show w.heap.size<l by omega)).trans G0;have j1:wr.cell? (Ad w.heap.size 1)=some (Sl la g.nb lc):=(z.cell (p:=(Ad w.heap.size 1)) (show w.heap.size<l by omega)).trans G1;have bt:=yq av.q;clear av z;by_cases B:k<n
  .have hc:=D.q.cell B;have hf:=D.q.frozen k;go_wp2;have x0:((wr.setCell (Ad l k) (Sl (Sm wr.heap.size 0) n n)).alloc (Oc (madeCells #[Bf] n) 4)).cell? (Ad w.heap.size 0)=some (Sl ra g.nr rc):=uG _ ((yP (show l≠w.heap.size by omega)).trans j0);have x1:((wr.setCell (Ad l k) (Sl (Sm wr.heap.size 0) n n)).alloc (Oc (madeCells #[Bf] n) 4)).cell? (Ad w.heap.size 1)=some (Sl la g.nb lc):=uG _ ((yP (show l≠w.heap.size by omega)).trans j1);have xs:((wr.setCell (Ad l k) (Sl (Sm wr.heap.size 0) n n)).alloc (Oc (madeCells #[Bf] n) 4)).cell? (Ad l k)=some (Sl (Sm wr.heap.size 0) n n):=uG _ (uC hc);have X1:Hid (((wr.setCell (Ad l k) (Sl (Sm wr.heap.size 0) n n)).alloc (Oc (madeCells #[Bf] n) 4)).rowIs l 147 n (Qo (λi=>if i=k then wr.heap.size else rb i) n (k+1))):=(ulk D.o.q).alloc _;have X2:Hid (∀i,i<k->((wr.setCell (Ad l k) (Sl (Sm wr.heap.size 0) n n)).alloc (Oc (madeCells #[Bf] n) 4)).rowIs (rb i) 4 n (λj=>.bool (RU (UB g) i j))):=λi o=>((D.o.g i o).setOther (a:=(Ad l k)) (show rb i≠l by have:=D.o.a i o;omega) _).alloc _;have X3:Hid (((wr.setCell (Ad l k) (Sl (Sm wr.heap.size 0) n n)).alloc (Oc (madeCells #[Bf] n) 4)).rowIs wr.heap.size 4 n (λj=>.bool ((λ_=>false) j))):=by
    have:=Kh (wr.setCell (Ad l k) (Sl (Sm wr.heap.size 0) n n)) Bf n 4;rw[uh]at this;exact this
   have BX:Hid (Below l W4 ((wr.setCell (Ad l k) (Sl (Sm wr.heap.size 0) n n)).alloc (Oc (madeCells #[Bf] n) 4))):=(aa.o.setCell (p:=(Ad l k)) zD _).alloc (by rw[uh];omega) _;have XO:Hid (∀i,i<k->rb i<wr.heap.size):=λi o=>yq (D.o.g i o);obtain⟨I,au⟩:∃x,wr.heap.size=x:=⟨_,rfl⟩;generalize (wr.setCell (Ad l k) (Sl (Sm wr.heap.size 0) n n)).alloc (Oc (madeCells #[Bf] n) 4)=X at *;rw[au]at X1 X3 XO xs bt;rw[au];clear au hc hf j0 j1;have HO:Hid (m.heap.size<=I):=(by show _<=_;have:=aq.o;omega);have al:Hid (Bw m X):=af.o.trans (BX.o.mono (oH aq.o));have lX:I<X.heap.size:=yq X3.o;go_region_with (first|(go_at_call 65;refine(KH Q m ra la rc lc g _ ay.o al.o.drew h1 h2 k (oH s.o)).mono ?_;rintro e u ⟨⟨ba,bc,rfl,hO,ac⟩,a5⟩;have C:Bw X u:=(zH X).drew.trans a5;have i0:=ue x0 C;have i1:=ue x1 C;have is:=ue xs C;have B6:Hid (Bw X u):=C;have bi:Hid (zM Q m ba (nd g k).bl (nd g k).e):=hO;have am:Hid ((nd g k).bl<=bc):=ac;clear C a5 hO ac)|(go_at_call 76;refine(ufy Q m ra la ba g.nr rc g.nb lc (nd g k).bl bc n (nd g k).e mb 0 n I n (S0 g) (λ_=>false) _ s.o h1 h2 (KG E.o.a k (oH s.o)) am.o bi.o (yr E.o (oH s.o)) HM.o HO.o (al.o.trans (B6.o.mono al.o.size)) (yC X3.o B6.o)).mono ?_;rintro e W7 ⟨⟨v,rfl⟩,bd,a9⟩;have bk:Hid (W7.rowIs I 4 n (λj=>.bool (false||(M.top (M.stk (uJ g.nr (S0 g)) (nd g k).e (nd g k).bl)).f.j j))):=bd;have ao:Hid (zA (λx=>x=I) X W7):=(vC B6.o).c a9;clear bd a9));all_goals go_wp2
   all_goals go_roundw
   all_goals first
    |(refine⟨k+1,λi=>if i=k then I else rb i,oM,by go_num,⟨X1.o.of_block (ao.o.d _ oM (show ¬(l=I) by omega)),λi o=>?_,λi j o hj q=>?_,λi o=>?_⟩,BX.o.trans (ao.o.below oM (λx hx=>oM))⟩
      .by_cases e:i=k
       .subst e;simp only[if_true];exact Qn bk.o (λj hj=>by unfold RU UB Nu;rw[Zp (oH s.o)];simp only[Qz];rfl)
       simp only[Zn e];have:=XO.o i oM;exact(X2.o i oM).of_block (ao.o.d _ oM (show ¬(rb i=I) by omega))
      .by_cases e:i=k
       .by_cases e':j=k
        .omega
        simp only[Zp e,Zn e']at q;have:=XO.o j oM;omega
       by_cases e':j=k
       .simp only[Zn e,Zp e']at q;have:=XO.o i oM;omega
       simp only[Zn e,Zn e']at q;exact D.o.inj i j oM oM q
      by_cases e:i=k
      .simp only[Zp e];omega
      simp only[Zn e];exact D.o.a i oM)
    |(simp[intOf];omega)
  obtain rfl:k=n:=oM;have HT:Hid (Ip wr l l rb k k (RU (UB g))):=D.o.b;clear D R4;obtain⟨O,eW⟩:∃V,wr=V:=⟨_,rfl⟩;subst wr;go_wp2;go_loopw [8] (λkv wr=>kI O l rb k (RU (UB g)) kv wr) (λkv _=>k-(intOf kv).toNat)
  .exact⟨0,_,zK,rfl,M.Warsh.c,HT.o,zH _⟩
  obtain⟨q,T,hq,rfl,hW,hT,z⟩:=hrel;have HW:Hid (M.Warsh (RU (UB g)) k q T):=hW;have ah:Hid (Ip wr l l rb k k T):=hT;have Z:Hid (Below (l+1) O wr):=z;clear hW hT z;by_cases B:q<k
  .go_wp2;go_loopw [9] (λt wr=>iI O l rb k q T t wr) (λt _=>k-(intOf t).toNat)
   .exact⟨0,T,zK,rfl,Iq.f T k q,ah.o,Z.o⟩
   obtain⟨i,A,o,rfl,hR,a2,a3⟩:=hrel;have HR:Hid (Iq T A k q i):=hR;have a0:Hid (Ip wr l l rb k k A):=a2;have ax:Hid (Below (l+1) O wr):=a3;clear hR a2 a3;by_cases S:i<k
   .go_wp2;go_loopw [10] (λjv wr=>jI O l rb k q i A jv wr) (λjv _=>k-(intOf jv).toNat)
    .exact⟨0,A,zK,rfl,Ib.f A i q,a0.o,ax.o⟩
    obtain⟨j,F,hj,rfl,hC,ab,a4⟩:=hrel;have HC:Hid (Ib A F i q j):=hC;have H:Hid (Ip wr l l rb k k F):=ab;have ag:Hid (Below (l+1) O wr):=a4;have e1:Hid (F i q=A i q):=hC.ik;have e2:Hid (F q j=A q j):=hC.kj;have c1:=ab.q i S;have J:=ab.p S B;have c3:=ab.q q B;have l1:l<wr.heap.size:=ud c1;have l2:rb i<wr.heap.size:=ud J;clear hC ab a4;by_cases bb:j<k
    .have c4:=H.o.p B bb;have l3:rb q<wr.heap.size:=ud c4;cases G:F i q with
     |true =>
      rw[G]at J;have an:Hid (A i q=true):=e1.o▸G;cases U:F q j with
      |true =>
       rw[U]at c4;have ap:Hid (A q j=true):=e2.o▸U;have c5:=H.o.p S bb;have c6:=H.o.r S j;clear G U;go_wp2;go_roundw
       .exact⟨j+1,Uz F i j,oM,by go_num,HC.o.n ap.o an.o,H.o.set S j,ag.o.setCell (p:=(Ad (rb i) j)) (H.o.a i S) _⟩
       simp[intOf];omega
      |false =>
       rw[U]at c4;have ap:Hid (A q j=false):=e2.o▸U;clear G U;go_wp2;go_roundw
       .exact⟨j+1,F,oM,by go_num,HC.o.b ap.o,H.o,ag.o⟩
       simp[intOf];omega
     |false =>
      rw[G]at J;have an:Hid (A i q=false):=e1.o▸G;clear G;go_wp2;go_roundw
      .exact⟨i+1,F,oM,by go_num,Iq.a B HR.o HC.o (.inr an.o),H.o,ag.o⟩
      simp[intOf];omega
    have a8:j=k:=oM;have HJ:Hid (j=k):=a8;clear a8;go_wp2;go_roundw
    .exact⟨i+1,F,oM,by go_num,Iq.a B HR.o HC.o (.inl HJ.o),H.o,ag.o⟩
    simp[intOf];omega
   have bn:i=k:=oM;subst bn;go_wp2;go_roundw
   .exact⟨q+1,A,oM,by go_num,Iq.e HW.o B HR.o,a0.o,ax.o⟩
   simp[intOf];omega
  have br:q=k:=oM;subst br;obtain⟨u,eW⟩:∃V,wr=V:=⟨_,rfl⟩;subst wr;have az:Hid (∀i,i<q->LB g i->T i i=true):=λi o h=>HW.o i i o o (by unfold LB at h;rw[s.o]at h;exact h);have y0:u.cell? (Ad w.heap.size 0)=some (Sl ra g.nr rc):=(Z.o.cell (p:=(Ad w.heap.size 0)) (show w.heap.size<l+1 by omega)).trans j0;have y1:u.cell? (Ad w.heap.size 1)=some (Sl la g.nb lc):=(Z.o.cell (p:=(Ad w.heap.size 1)) (show w.heap.size<l+1 by omega)).trans j1;have be:Hid (Below l W4 u):=aa.o.trans (Z.o.mono oM);have ak:Hid (Bw m u):=af.o.trans (be.o.mono (oH aq.o));have aw:Hid (Bw w u):=B3.o.trans (ak.o.mono B3.o.size);clear HW aa Z j0 j1 HT af G0 G1;go_wp2;go_loopw [11] (λt wr=>seI u q (LB g) t wr) (λt _=>q-(intOf t).toNat)
  .exact⟨0,zK,rfl,λ_ h=>aB h (Ge _),rfl⟩
  obtain⟨i,o,rfl,ae,b0⟩:=hrel;subst wr;have N:Hid (∀x,x<i->¬LB g x):=ae;clear ae;by_cases B:i<q
  .have c1:=ah.o.q i B;have J:=ah.o.p B B;have l1:l<u.heap.size:=ud c1;have l2:rb i<u.heap.size:=ud J;cases ad:T i i with
   |true =>
    rw[ad]at J;clear ad;go_wp2;refine zL (by simp[results,f27,go_sem];rfl) rfl ?_;exact⟨⟨8,i,.inr dC,rfl⟩,aw.o⟩
   |false =>
    rw[ad]at J;have bf:Hid (¬LB g i):=λh=>by have:=az.o i B h;rw[ad]at this;cases this
    clear ad;go_wp2;go_roundw
    .exact⟨i+1,oM,by go_num,λx hx h=>if e:x=i then bf.o (e▸h) else N.o x oM h,rfl⟩
    simp[intOf];omega
  have G:i=q:=oM;have bh:Hid (∀x,x<g.nr+g.nb->¬LB g x):=λx hx=>N.o x (oH s.o);clear G N az ah;go_wp2;go_loopw [12] (λt wr=>lkC u q (OB g) t wr) (λt _=>q-(intOf t).toNat)
  .exact⟨0,zK,rfl,λ_ h=>aB h (Ge _),zH _⟩
  obtain⟨p,hp,rfl,ae,z⟩:=hrel;have N:Hid (∀x,x<p->¬OB g x):=ae;have aa:Hid (Bw u wr):=z;have z0:=ue y0 z;have z1:=ue y1 z;have Y:Hid (Bw m wr):=ak.o.trans (z.mono ak.o.size);have BW:Hid (Bw w wr):=uf aw.o z;clear ae z;by_cases bu:p<q
  .have a1:Hid (qQ g p):=yr E.o (oH s.o);go_wp2;go_region_with (first|(go_at_call 65;refine(KH Q m ra la rc lc g _ ay.o Y.o.drew h1 h2 p (oH s.o)).mono ?_;rintro e W8 ⟨⟨ba,bc,rfl,hO,ac⟩,a6⟩;have C:Bw wr W8:=(zH wr).drew.trans a6;have i0:=ue z0 C;have i1:=ue z1 C;have B8:Hid (Bw wr W8):=C;have bj:Hid (zM Q m ba (nd g p).bl (nd g p).e):=hO;have am:Hid ((nd g p).bl<=bc):=ac;clear C a6 hO ac)|(go_at_call 77;refine(un5 Q ra la ba g.nr rc g.nb lc (nd g p).bl bc q (nd g p).e mb 0 q (S0 g).j _ s.o h1 h2 (KG E.o.a p (oH s.o)) am.o (bj.o.h (Y.o.trans (B8.o.mono Y.o.size))) a1.o (HM.o.h (Y.o.trans (B8.o.mono Y.o.size)))).mono ?_;rintro e W9 ⟨⟨r,rfl,W⟩,a7⟩;have B9:Hid (Bw wr W9):=uf B8.o a7;have bm:Hid (OB g p->r=true):=λh=>W.2 (uts a1.o h);clear a7 W));all_goals (cases r;(case' false=>have bg:Hid (¬OB g p):=λh=>(by cases bm.o h);go_wp2;go_roundw;(case rel=>exact⟨p+1,oM,by go_num,λx hx h=>if e:x=p then bg.o (e▸h) else N.o x oM h,uf aa.o B9.o⟩);(case measure=>simp[intOf];omega));(case' true=>go_wp2;refine zL (by simp[results,f27,go_sem];rfl) rfl ?_;exact⟨⟨9,p,.inr dC,rfl⟩,uf BW.o B9.o⟩))
  have bq:p=q:=oM;have HA:Hid (Vp g 0 0):=.inl ⟨rfl,rfl,bh.o,λx hx=>N.o x (oH s.o)⟩;clear bq;go_wp2;refine zL (by simp[results,f27,go_sem];rfl) rfl ?_;exact⟨⟨0,0,HA.o,rfl⟩,BW.o⟩
end Go.Proofs.YtmlblamikgkdcaaGreat
