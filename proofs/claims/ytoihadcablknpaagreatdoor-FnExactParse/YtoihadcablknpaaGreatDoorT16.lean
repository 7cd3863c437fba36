import Derived.Test.YtoihadcablknpaaGreatDoorT15
set_option linter.unusedVariables false
set_option linter.unusedSimpArgs false
set_option linter.defProp false
set_option maxHeartbeats 40000000
set_option maxRecDepth 100000
namespace Go.Proofs.YtoihadcablknpaaGreatDoor
open Go.RowKit
open Go.Proofs.Tryz
section
def AQ(md:Region.Mode)(o:Oper)(L:Nat):Bool:=(List.range L).all λj=>o.after.any λe=>e.on==j&&Region.binds md e
def Ur(ops:Array Oper):Bool:=(List.range ops.size).all λj=>match ops[j]? with|some o=>o.after.all λe=>decide (e.on<j)|none=>true
section
variable {P:Program} {md:Region.Mode} {ops:Array Oper} {C:Wl->Prop}
def T6{l:Array Bool}{j}(h:l.getD j true=true)(a:j<l.size):l.getD j false=true:=by
 simp[Array.getD,a]at h ⊢;exact h
def MK(g:Ur ops=true)(a:Array Bool)(l:a.size=ops.size)(h:Region.ready md ops a = []):∀j,j<ops.size->a.getD j true=true:=by
 intro j;induction j using Nat.strongRecOn with
 |_ j k =>
  intro b;cases e:a.getD j true with
  |true=>rfl
  |false =>
   have:j∈Region.ready md ops a:=by
    rw[mem_ready];refine⟨e,ops[j],by simp[b],λx i _=>?_⟩;have c:=List.all_eq_true.1 g j (Ng.2 b);simp only[Array.getElem?_eq_getElem b]at c;have d:=Array.all_eq_true'.1 c x i;have f:x.on<j:=(by simpa using d);exact T6 (k x.on f oM) oM
   rw[h]at this;cases this
def T7{o:Oper}{L:Nat}(R:ops.size=L+1)(t:ops[L]?=some o)(F:AQ md o L=true)(u:Ur ops=true){Q:Act->Prop}{Q':Exit->Act->World->Prop}
  (z:∀a w,C w->Q a->Region.wanted o (yielded ops a.tmps)=true/\∀K:Act->World->Prop,(∀a w,Q' .normal a w->K a w)->o.wp P a w K Q') :
  ∀(fU:Nat) (b:Array Bool) (a:Act) (w:Wl),b.size=L+1->b.getD L true=false->C w->wpAnyQ P md ops C Q fU (b.setIfInBounds L true) a->wpAny P md ops Q' (fU+1) b a w:=by
 have s:∀(fU:Nat) (b:Array Bool) (a:Act) (w:Wl),b.size=L+1->b.getD L true=false->C w->L∈Region.ready md ops b->(Region.ready md ops (b.setIfInBounds L true) = []->Q a)->wpOp P ops Q' L (wpAny P md ops Q' fU (b.setIfInBounds L true)) a w:=by
  intro fU b a w k f g E D;have A:∀j,j<L->b.getD j false=true:=λj n=>by
   obtain⟨_,N,m,h⟩:=mem_ready.1 E;rw[t]at m;cases m;have v:=List.all_eq_true.1 F j (Ng.2 n);obtain⟨i,c,l⟩:=Array.any_eq_true.1 v;simp only[Kd,beq_iff_eq]at l;have:=h _ (Array.getElem_mem c) l.2;rw[l.1]at this;exact this
  have p:Region.ready md ops (b.setIfInBounds L true) = []:=by
   cases I:Region.ready md ops (b.setIfInBounds L true) with
   |nil=>rfl
   |cons j r =>
    exfalso;have n:j∈Region.ready md ops (b.setIfInBounds L true):=(by rw[I];exact Mc);obtain⟨d,N,m,_⟩:=mem_ready.1 n;have O:=(Cq.1 m).1;by_cases e:j=L
    ·subst e;simp[Array.getD,k]at d
    have B:j<L:=oM;have:=A j B;have hjl':j<b.size:=oM;rw[getD_set_ne true (Ne.symm e)]at d;simp[Array.getD,hjl']at d this;rw[this]at d;cases d
  obtain⟨G,H⟩:=z a w g (D p);unfold wpOp;simp only[t,G,if_true];refine .inl (H _ (λq w' h=>?_));cases fU with
  |zero=>exact⟨p,h⟩
  |succ fU=>exact⟨λ_=>h,λi c=>by rw[p]at c;cases c⟩
 intro fU;induction fU with
 |zero =>
  intro b a w k f g h;refine⟨λd=>?_,λi c=>?_⟩
  ·have:=MK u b oM d L oM;rw[f]at this;cases this
  by_cases e:i=L
  ·subst e;exact s 0 b a w k f g c (λ_=>h.2)
  have:=ready_mono c e;rw[h.1]at this;cases this
 |succ fU J =>
  intro b a w k f g h;refine⟨λd=>?_,λi c=>?_⟩
  ·have:=MK u b oM d L oM;rw[f]at this;cases this
  by_cases e:i=L
  ·subst e;exact s (fU+1) b a w k f g c h.1
  have l:=h.2 i (ready_mono c e);refine wpOp_of_qOp g (λq w' x y=>J (b.setIfInBounds i true) q w' (by simpa using k) ?_ x ?_) l
  ·rw[getD_set_ne true e];exact f
  rw[Array.setIfInBounds_comm _ _ e];exact y
def T8{Q:Act->Prop}(g:Region.noSelect ops=true)(l:List Oper):∀(k:Nat) (d:Array Bool) (a:Act),(∀j,j<l.length->l[j]?=ops[k+j]?)->Region.lexFrom md ops l.length k d=true->wpQuiet P ops C Q l a->wpAnyQ P md ops C Q l.length d a:=by
 induction l with
 |nil=>exact λ_ _ _ _ b h=>⟨by simpa[Region.lexFrom] using b,h⟩
 |cons o l n =>
  intro k d a e b h;have c:ops[k]?=some o:=by have:=e 0 sM;simpa using this.symm
  simp only[zQ,Region.lexFrom,Kd]at b;have i:qOp P ops C k (wpQuiet P ops C Q l) a:=by
   unfold qOp;simp only[c];exact h
  obtain⟨v,m,f⟩:=yieldsIn_of_qOp c i;refine wpAnyQ_first c (Region.noSelect_spec g) l.length d a (Region.free_spec c b.1.2) (by simpa using b.1.1) m (n (k+1) _ _ (λj p=>?_) b.2 f);have:=e (j+1) sO;rw[show k+1+j=k+(j+1) by omega,<-this];simp
def T9{o:Oper}{l:List Oper}{id:Nat}{Q':Exit->Act->World->Prop}{a:Act}{w:Wl}(i:P.follows .mixedOrders=true)(k:AQ .any o l.length=true)(f:Ur (l++[o]).toArray=true)
  (c:(Region.noSelect (l++[o]).toArray&&Region.lexFrom .any (l++[o]).toArray l.length 0 ((Array.replicate (l++[o]).toArray.size false).setIfInBounds l.length true))=true) (d:C w.drew)
  (h:wpQuiet P (l++[o]).toArray C (λb=>∀w',C w'->Region.wanted o (yielded (l++[o]).toArray b.tmps)=true/\∀K:Act->World->Prop,(∀a w,Q' .normal a w->K a w)->o.wp P b w' K Q') l a):(Code.region id (l++[o]).toArray true).wp P Q' a w:=by
 simp only[Kd]at c;refine wp_region_any i ?_;have e:(l++[o]).toArray.size=l.length+1:=sM;rw[e];refine T7 (C:=C) (o:=o) (L:=l.length) e sM k f (Q:=λb=>∀w',C w'->Region.wanted o (yielded (l++[o]).toArray b.tmps)=true/\∀K:Act->World->Prop,(∀a w,Q' .normal a w->K a w)->o.wp P b w' K Q') (λa w d h=>h w d) _ _ _ _ sM (by simp[Array.getD]) d ?_;have:=T8 (C:=C) (md:=.any) c.1 l 0 ((Array.replicate (l++[o]).toArray.size false).setIfInBounds l.length true) a (λj g=>?_) c.2 h
 ·rw[e]at this;exact this
 rw[zL];simp[Cr g]
end
def U0{P:Program}{ι:Type}(F:ι->World){id:Nat}{Q':Exit->Act->World->Prop}{a:Act}{w}{l:List Oper}{o:Oper}(b:l.getLast? = some o)(k:P.follows .mixedOrders=true)(m:AQ .any o l.dropLast.length=true)(j:Ur l.toArray=true)(g:(Region.noSelect l.toArray&&Region.lexFrom .any l.toArray l.dropLast.length 0 ((Array.replicate l.toArray.size false).setIfInBounds l.dropLast.length true))=true)(i:∃n,w.drew=F n)(h:wpQuiet P l.toArray (λw'=>∃n,w'=F n) (λc=>∀w',(∃n,w'=F n)->Region.wanted o (yielded l.toArray c.tmps)=true/\∀K:Act->World->Prop,(∀a w,Q' .normal a w->K a w)->o.wp P c w' K Q') l.dropLast a):(Code.region id l.toArray true).wp P Q' a w:=by
 have e:l.dropLast++[o]=l:=by
  have d:l≠[]:=by
   rintro rfl;simp at b
  rw[List.getLast?_eq_some_getLast d]at b;have:=List.dropLast_concat_getLast d;rw[Ko b]at this;exact this
 have f:=T9 (P:=P) (C:=λw'=>∃n,w'=F n) (o:=o) (l:=l.dropLast) (id:=id) (Q':=Q') (a:=a) (w:=w) k m;rw[e]at f;exact f j g i h
end
open M (OpD uh Gr)
theorem NV{X Y a c t}(h:((X.alloc (Oc a t)).alloc (Oc c t)).drew=Y):wJ Y X.heap.size a/\wJ Y (X.heap.size+1) c/\Bw X Y :=
  h▸⟨((um X a t).al _).on (wI _).drew,(uV (X.alloc (Oc a t)) c t (X.heap.size+1) sM).on (wI _).drew,(Bn X).drew⟩
theorem ya gp mp sa nr sc k l oc mk o x y w(j:o.e=4)(A:Dr w k l x)(B:Dr w k (l+6) y)(C:x.f.OK)(D:y.f.OK) :
    Cs 137 #[.agg #[Iv o.e,Sl sa o.sl sc,Iv o.f],Sl (Sm k l) 2 oc,gp,mp] w (qw (uC nr mk o x y) w):=by
  have u:Hid (uC nr mk o x y=⟨x.e&&y.e,if x.e then x.f.e y.f else x.f,x.loop||y.loop⟩):=by show _=_;simp[uC,j,M.bI]
  rw[j];have U:=ua A;have V:=ua B;have Z:=ua C;have KY:=ua D;clear j C D A B;obtain⟨xn,xb,xl⟩:=x;obtain⟨yn,yb,yl⟩:=y;cases xn<;>cases xl
  all_goals
    go_enter func137,ntmps137;go_wp2;generalize h:(w.alloc _).alloc _=X;have g:Hid (Bw w X):=h▸Bn w;have n:=ua (h▸uV _ _ _ (w.heap.size+1) sM:wJ X (w.heap.size+1) #[Bf,Uv 0,Uv 0,Uv 0,Uv 0,Bf]);clear h;obtain⟨m,E,F,G,H,I⟩:=U.o.q g.o;obtain⟨J,y1,y2,L,N,O⟩:=V.o.q g.o;simp only at m E F G H I J y1 y2 L N O;have aa:=ud m;go_region
  all_goals
    generalize v:World.drew _=Y;obtain⟨c,d,b⟩:=NV v;have s:=ua (uf g.o b);have P:=ua c;have Q:=ua d;have R:=ua (n.o.on b);obtain⟨p,p',lp⟩:=c.x;obtain⟨q,q',lq⟩:=d.x;obtain⟨r,r',lr⟩:=(n.o.on b).x;clear m E F G H I J y1 y2 L N O v c d b aa;have ab:¬w.heap.size+1=Y.heap.size:=oM;first
    | (go_wp2
       refine wL ?_ rfl ⟨rfl,?_⟩
       · rw[u.o];simp[results,f137,go_sem,It, *]
       · repeat with_reducible first|exact s.o | refine uy ?_ oM | refine uf ?_ (wG _))
    | (go_wp2_with (go_at_call 141;refine (MS xb yb _ Z.o KY.o).mono ?_;rintro e W ⟨⟨t,z,rfl⟩,i⟩;have S:=ua z;have a:=uf (wG Y) i;have T:=ua (uf s.o a);obtain⟨b0,b1,b2⟩:=((um Y _ _).on i).x;obtain⟨p,p',lp⟩:=(P.o.on a).x;obtain⟨q,q',lq⟩:=(Q.o.on a).x;obtain⟨r,r',lr⟩:=(R.o.on a).x;clear i a z)
       refine wL ?_ rfl ⟨rfl,?_⟩
       · obtain rfl:=S.o;rw[u.o];simp[results,f137,go_sem,It, *]
       · repeat with_reducible first|exact T.o | refine uy ?_ oM | refine uf ?_ (wG _))
theorem yc gp mp sa nr sc z A oc mk o x y w(v:o.e=5)(L:Dr w z A x)(N:Dr w z (A+6) y)(O:x.f.OK)(P:y.f.OK) :
    Cs 137 #[.agg #[Iv o.e,Sl sa o.sl sc,Iv o.f],Sl (Sm z A) 2 oc,gp,mp] w (qw (uC nr mk o x y) w):=by
  have HK:Hid (uC nr mk o x y=⟨x.e||y.e,x.f.e y.f,x.loop||y.loop⟩):=by show _=_;simp[uC,v,M.bI]
  rw[v];have HX:=ua L;have HY:=ua N;have KX:=ua O;have KY:=ua P;clear v O P L N;obtain⟨xn,h,xl⟩:=x;obtain⟨yn,i,yl⟩:=y;have J:=fun W=>MS h i W KX.o KY.o
  cases xn<;>cases xl
  all_goals
    go_enter func137,ntmps137;go_wp2;generalize t:(w.alloc _).alloc _=X;have k:Hid (Bw w X):=t▸Bn w;have AX:=ua (t▸uV _ _ _ (w.heap.size+1) sM:wJ X (w.heap.size+1) #[Bf,Uv 0,Uv 0,Uv 0,Uv 0,Bf]);clear t;obtain⟨B,R,S,T,U,Z⟩:=HX.o.q k.o;obtain⟨y0,y1,y2,y3,y4,y5⟩:=HY.o.q k.o;simp only at B R S T U Z y0 y1 y2 y3 y4 y5;have aa:=ud B;go_region
  all_goals
    generalize I:World.drew _=Y;obtain⟨C,D,l⟩:=NV I;obtain⟨ι,ab,F,g,p⟩:=Wi Y;have c1:=fun n=>(C.on (g n)).x.1
    have c2:=fun n=>(D.on (g n)).x.1
    have HB:=ua (uf k.o l);have H3:=ua (AX.o.on l);have E:Hid (∃n,Y.drew=F n):=p _ (wI Y).drew;have G:=ua g;have H:=ua fun n=>(J (F n)).mono (fun e W q=>show e=Rt (.agg #[Uv (h.e i).a,Uv (h.e i).b,Uv (h.e i).c,Uv (h.e i).d])/\∃m,W=F m by
      obtain⟨⟨u,rfl,rfl⟩,hb⟩:=q;exact⟨rfl,p W (uf (g n) hb)⟩)
    clear B R S T U Z y0 y1 y2 y3 y4 y5 I C D l aa g p J;go_wp2_with fail;refine U0 F rfl rR rR rR rR E.o ?_;simp only[List.dropLast]
    repeat (go_big_quiet_step (first|(go_at_call 141;exact H.o _)))
    refine wpQuiet_nil ?_;rintro _ ⟨Q,rfl⟩;refine⟨by simp[Region.wanted],fun K hK=>?_⟩
    obtain⟨V,s⟩:=nm (F Q);have j:=s▸G.o Q;obtain⟨r,r',lr⟩:=(H3.o.on j).x;have HV:=ua (uf HB.o j);rw[s];clear s E G H j c1 c2;dsimp only[List.getLast];go_simp;refine hK _ _ ?_;go_wp2;refine wL ?_ rfl ⟨rfl,?_⟩
    · rw[HK.o];simp[results,f137,go_sem,It, *]
    · repeat with_reducible first|exact HV.o | refine uy ?_ oM
def xo i k sa nr sc b d l mk o x w(a:o.e=6)(j:Dr w b d x) :
  Cs 137 #[.agg #[Iv o.e,Sl sa o.sl sc,Iv o.f],Sl (Sm b d) 1 l,i,k] w (qw (uC nr mk o x default) w):=by
 have c:¬M.bI o:=by rintro (q|q)<;>omega
 have h:Hid (uC nr mk o x default=⟨true,x.f,x.e||x.loop⟩):=by show _=_;simp[uC,a,c]
 have u:(o.e==0)=false:=by simp[a]
 have v:(o.e==2)=false:=by simp[a]
 have y:(o.e==3)=false:=by simp[a]
 have z:(o.e==4)=false:=by simp[a]
 have A:(o.e==5)=false:=by simp[a]
 have B:(o.e==6)=true:=by simp[a]
 obtain⟨g,m,n,p,r,s⟩:=j;have C:b<w.heap.size:=ud g;clear a c;obtain⟨t,D,E⟩:=x;cases t;all_goals (
  simp only at g m n p r s;go_enter func137,ntmps137;go_wp2;go_region;go_wp2;refine wL (by simp[results,f137,go_sem];rfl) rfl ?_;exact⟨by rw[h.o];exact Vh rfl rfl rfl rfl rfl rfl,(Bn w).drew⟩)
def xv h j sa nr sc b d k mk o x w(a:o.e=7)(i:Dr w b d x) :
  Cs 137 #[.agg #[Iv o.e,Sl sa o.sl sc,Iv o.f],Sl (Sm b d) 1 k,h,j] w (qw (uC nr mk o x default) w):=by
 have c:¬M.bI o:=by rintro (q|q)<;>omega
 have g:Hid (uC nr mk o x default=⟨true,x.f,x.loop⟩):=by show _=_;simp[uC,a,c]
 have m:(o.e==0)=false:=by simp[a]
 have n:(o.e==2)=false:=by simp[a]
 have p:(o.e==3)=false:=by simp[a]
 have r:(o.e==4)=false:=by simp[a]
 have s:(o.e==5)=false:=by simp[a]
 have t:(o.e==6)=false:=by simp[a]
 have u:(o.e==7)=true:=by simp[a]
 obtain⟨l,y,z,A,B,C⟩:=i;have v:b<w.heap.size:=ud l;clear a c;go_enter func137,ntmps137;go_wp2;go_region;go_wp2;refine wL (by simp[results,f137,go_sem];rfl) rfl ?_;exact⟨by rw[g.o];exact Vh rfl rfl rfl rfl rfl rfl,(Bn w).drew⟩
def ume ra la g rc lc(w:g.nr<=100)(z:g.nb<=100):Vd ra la g rc lc:=by
 intro S B W gb u A o l W' sa v sc i p C n D m;have E:=p.1;have F:=p.2.1;have hC':=A.q C;have c:(o.e=0\/o.e=1)\/(o.e=2\/o.e=3)\/o.e=4\/o.e=5\/o.e=6\/o.e=7:=oM;rcases c with c|c|c|c|c|c
 ·have a:M.ar o.e=0:=by rcases c with q|q<;>rw[q]<;>rfl
  have d:ye g.nr S o l=uC g.nr S o default default:=by simp[ye,a]
  rw[d,a];exact xg gb u ra la sa v g.nr rc g.nb lc sc _ i S o W' hC' c
 ·have a:M.ar o.e=0:=by rcases c with q|q<;>rw[q]<;>rfl
  have d:ye g.nr S o l=uC g.nr S o default default:=by simp[ye,a]
  rw[d,a];exact xl gb u ra la sa v g.nr rc g.nb lc sc _ i S o W' hC' c p B w z
 ·have a:M.ar o.e=2:=by rw[c];rfl
  obtain⟨f,b,k,y,j,x,r,rfl,rfl,h,t⟩:=m.2 a;have d:ye g.nr S o ((k,y)::(j,x)::r)=uC g.nr S o x y:=by simp[ye,a]
  rw[d,a];exact ya _ _ sa g.nr sc f b i S o x y W' c h t (n (j,x) sM) (n (k,y) sM)
 ·have a:M.ar o.e=2:=by rw[c];rfl
  obtain⟨f,b,k,y,j,x,r,rfl,rfl,h,t⟩:=m.2 a;have d:ye g.nr S o ((k,y)::(j,x)::r)=uC g.nr S o x y:=by simp[ye,a]
  rw[d,a];exact yc _ _ sa g.nr sc f b i S o x y W' c h t (n (j,x) sM) (n (k,y) sM)
 ·have a:M.ar o.e=1:=by rw[c];rfl
  obtain⟨f,b,s,x,r,rfl,rfl,h⟩:=m.1 a;have d:ye g.nr S o ((s,x)::r)=uC g.nr S o x default:=by simp[ye,a]
  rw[d,a];exact xo _ _ sa g.nr sc f b i S o x W' c h
 have a:M.ar o.e=1:=by rw[c];rfl
 obtain⟨f,b,s,x,r,rfl,rfl,h⟩:=m.1 a;have d:ye g.nr S o ((s,x)::r)=uC g.nr S o x default:=by simp[ye,a]
 rw[d,a];exact xv _ _ sa g.nr sc f b i S o x W' c h
end Go.Proofs.YtoihadcablknpaaGreatDoor
