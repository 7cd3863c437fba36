import Derived.Test.YtimfigongapdnaaGreatT19
import Derived.Test.YtimfigongapdnaaGreatT17
set_option linter.unusedVariables false
set_option linter.unusedSimpArgs false
set_option maxHeartbeats 40000000
set_option maxRecDepth 100000
namespace Go.Proofs.YtimfigongapdnaaGreat
open Go.RowKit
open M (OpD ug Gr)
theorem vv{P:Program}{ι:Type}(F:ι->World){id:Nat}{Q:Exit->Act->World->Prop}{a:Act}{w}{l:List Oper}(e:P.follows .mixedOrders=true)(c:Region.lexB .any l.toArray=true)(d:∃n,w.drew=F n)(h:wpQuiet P l.toArray (λw'=>∃n,w'=F n) (λb=>∀w',(∃n,w'=F n)->Q .normal b w') l a):(Code.region id l.toArray true).wp P Q a w :=
 wp_region_quiet (C:=λw'=>∃n,w'=F n) e c d (by simpa using h)
theorem uce w:∃(ι:Type) (_:Nonempty ι) (F:ι->World),(∀n,Below w.heap.size w (F n))/\∀W,Below w.heap.size w W->∃n,W=F n :=
 ⟨{W:World // Below w.heap.size w W},⟨⟨w,Below.refl _ w⟩⟩,Subtype.val,λn=>n.2,λW h=>⟨⟨W,h⟩,rfl⟩⟩
theorem ubQ{P:Prop}{ι:Type}{F:ι->World}{w}{f:FuncId}{args:Array Value}{n:ι}(g:Below w.heap.size w (F n))(i:∀W,Below w.heap.size w W->∃n,W=F n){r:Bool}(b:r=true↔P)(h:Calls Tryz.prog f args (F n) (xK P (F n))):Calls Tryz.prog f args (F n) λe j=>e=.returned (.bool r)/\∃m,j=F m :=
 h.mono λe W q=>by
  obtain⟨⟨c,rfl,a⟩,d⟩:=q;have:c=r:=by
   cases r<;>cases c<;>first|rfl|exact absurd (b.2 (a.1 rfl)) (by decide)|exact absurd (a.2 (b.1 rfl)) (by decide)
  exact⟨by rw[this],i W (uf g d)⟩
def ujj(g:Gr)(i:Nat):Prop:=M.NameOK (g.rule i).nl (g.rule i).name/\M.BodyOK g.nr g.nb (g.rule i).bl (g.rule i).body/\∀j,j<i->¬M.SameName (g.rule i) (g.rule j)
def uoD(g:Gr)(i:Nat):Prop:=(∃j,j<g.nr/\M.Throws (g.rule j).bl (g.rule j).body i)\/∃j,j<g.nb/\M.Throws (g.lab j).bl (g.lab j).body i
def uoE(g:Gr)(i:Nat):Prop:=M.NameOK (g.lab i).nl (g.lab i).name/\(0<i->M.LessName (g.lab (i-1)) (g.lab i)) /\
 ((g.lab i).has=true->M.BodyOK g.nr g.nb (g.lab i).bl (g.lab i).body)/\((g.lab i).has=false->uoD g i/\(g.lab i).bl=0)
theorem ujk g:M.Valid g↔0<g.nr/\g.nr<=100/\g.nb<=100/\(∀i,i<g.nr->ujj g i)/\(∀i,i<g.nb->uoE g i)/\M.ops g<=2000:=by
 constructor
 ·intro h;exact⟨h.r1,h.r2,h.l2,λi a=>⟨h.rn i a,h.rb i a,h.ru i a⟩,λi a=>⟨h.ln i a,h.la i a,h.lb i a,λq=>⟨h.lt i a q,h.lz i a q⟩⟩,h.ol⟩
 rintro⟨d,e,f,c,b,j⟩;exact { r1:=d,r2:=e,l2:=f,rn:=λi a=>(c i a).1,ru:=λi a=>(c i a).2.2,ln:=λi a=>(b i a).1,la:=λi a=>(b i a).2.1,rb:=λi a=>(c i a).2.1,lb:=λi a=>(b i a).2.2.1,lz:=λi a q=>((b i a).2.2.2 q).2,lt:=λi a q=>((b i a).2.2.2 q).1,ol:=j }
theorem ugo f N:∀n,(∀i,i<n->f i<=N)->M.sum f n<=n*N
 |0,_=>Nat.zero_le _
 |n+1,h=>by
  have a:=ugo f N n (λi c=>h i (by omega));have b:=h n (by omega);rw[M.sum,Nat.add_mul];omega
def uqw(W1:World)(g:Gr)(o i:Value)(wr:World):Prop :=
 ∃k:Nat,k<=g.nr/\o=.int .i64 ((M.sum (λi=>(g.rule i).bl) k:Nat):Int)/\i=.int .i64 (k:Int)/\Below W1.heap.size W1 wr/\∀j,j<k->ujj g j
def uta(V:World)(g:Gr)(k:Nat)(j:Value)(wr:World):Prop :=
 ∃m d:Nat,m<=k/\j=.int .i64 (m:Int)/\wr=V.drewN d/\∀t,t<m->¬M.SameName (g.rule k) (g.rule t)
def usl(W1:World)(g:Gr)(o i:Value)(wr:World):Prop :=
 ∃k:Nat,k<=g.nb/\o=.int .i64 ((M.sum (λi=>(g.rule i).bl) g.nr+M.sum (λi=>(g.lab i).bl) k:Nat):Int)/\i=.int .i64 (k:Int)/\Below W1.heap.size W1 wr/\∀j,j<k->uoE g j
def ukt(V:World)(n:Nat)(p:Nat->Prop)(a:Prop)(t j:Value)(wr:World):Prop :=
 ∃(m:Nat) (b:Bool),m<=n/\j=.int .i64 (m:Int)/\t=.bool b/\wr=V/\(b=true↔a\/∃q,q<m/\p q)
theorem ugp{p:Nat->Prop}{m:Nat}:(∃q,q<m+1/\p q)↔(∃q,q<m/\p q)\/p m:=by
 constructor
 ·rintro⟨q,a,h⟩;by_cases e:q=m
  ·subst e;exact .inr h
  exact .inl ⟨q,by omega,h⟩
 rintro (⟨q,a,h⟩|h)
 ·exact⟨q,by omega,h⟩
 exact⟨m,by omega,h⟩
theorem ubR{p:Nat->Prop}{P:Prop}{m:Nat}{r}(h:false=true↔P\/∃q,q<m/\p q)(k:r=true↔p m):r=true↔P\/∃q,q<m+1/\p q:=by
 rw[ugp,k];exact⟨λh=>.inr (.inr h),λq=>q.elim (λa=>absurd (h.2 (.inl a)) (by decide)) λq=>q.elim (λa=>absurd (h.2 (.inr a)) (by decide)) id⟩
theorem jZ Q ra la rc lc g w(hG:GramA Q w ra la g)(hs:vF g) :
  Calls Tryz.prog 28 #[.agg #[.slice ra g.nr rc,.slice la g.nb lc]] w (xK (M.Valid g) w):=by
 have h1:=hs.nr;have h2:=hs.nb;by_cases n1:g.nr<1
 ·have t1:(g.nr:Int)<1:=by omega
  go_enter Tryz.func28,Tryz.ntmps28;go_wp2;go_ret;exact⟨⟨false,rfl,uV λq=>by have:=q.r1;omega⟩,ui w _⟩
 have t1:¬(g.nr:Int)<1:=by omega
 by_cases n2:100<g.nr
 ·have t2:(100:Int)<(g.nr:Int):=by omega
  go_enter Tryz.func28,Tryz.ntmps28;go_wp2;go_ret;exact⟨⟨false,rfl,uV λq=>by have:=q.r2;omega⟩,ui w _⟩
 have t2:¬(100:Int)<(g.nr:Int):=by omega
 by_cases n3:100<g.nb
 ·have t3:(100:Int)<(g.nb:Int):=by omega
  go_enter Tryz.func28,Tryz.ntmps28;go_wp2;go_ret;exact⟨⟨false,rfl,uV λq=>by have:=q.l2;omega⟩,ui w _⟩
 have t3:¬(100:Int)<(g.nb:Int):=by omega
 have HR:=ua hG.rules;have HL:=ua hG.labs;have S1:=ua hs.rule;have J:=ua hs.lab;go_enter Tryz.func28,Tryz.ntmps28;go_wp2;go_loopw [3,4] (λo i wr=>uqw (w.alloc (.cells #[.slice ra g.nr rc,.slice la g.nb lc] 28)) g o i wr) (λo i _=>g.nr-(intOf i).toNat)
 case atStart=>exact⟨0,Nat.zero_le _,rfl,rfl,Below.refl _ _,λj hj=>absurd hj (Nat.not_lt_zero _)⟩
 case round =>
  obtain⟨k,hk,rfl,rfl,s,O⟩:=hrel;have HA:Hid (∀j,j<k->ujj g j):=O;have P:=uf (ui w _) s;have g0:wr.cell? ⟨w.heap.size,0,none⟩=some (.slice ra g.nr rc):=ue (by simp) s;have g1:wr.cell? ⟨w.heap.size,1,none⟩=some (.slice la g.nb lc):=ue (by simp) s;have a9:w.heap.size<wr.heap.size:=by have:=s.size;simp at this;omega
  by_cases u:k<g.nr
  ·have hlt':(k:Int)<(g.nr:Int):=(by omega);have A:=HR.later P;rcases A with h0|⟨b,off,rfl,hq,A⟩
   ·omega
   obtain⟨⟨c,f,N,hn⟩,⟨ba,bc,c1,hb⟩⟩:=A k u;have bg:=ud N;have bj:M.sum (λi=>(g.rule i).bl) k<=k*1048576:=ugo _ _ _ (λi hi=>(S1.out i (by omega)).body.1);have bm:M.sum (λi=>(g.rule i).bl) k<=104857600:=(by have:k*1048576<=100*1048576:=Nat.mul_le_mul_right _ (by omega);omega);have bf:=(S1 k u).body.1;have ab:Hid (M.sum (λi=>(g.rule i).bl) (k+1)=M.sum (λi=>(g.rule i).bl) k+(g.rule k).bl):=rfl;generalize M.sum (λi=>(g.rule i).bl) k=so at bm ab bj ⊢;have X:=ua P;have al:Hid (Below (w.alloc (.cells #[.slice (some ⟨b,off,none⟩) g.nr rc,.slice la g.nb lc] 28)).heap.size (w.alloc (.cells #[.slice (some ⟨b,off,none⟩) g.nr rc,.slice la g.nb lc] 28)) wr):=s;have HO:=ua hb;have z:=ua hn;have bd:=ua A;have SB:=S1 k u;have l:=ua SB;clear A P s hn hb SB;obtain⟨ι,bs,F,hF,ay⟩:=uce wr;have f0:∀n,(F n).cell? ⟨w.heap.size,0,none⟩=some (.slice (some ⟨b,off,none⟩) g.nr rc):=λn=>ue g0 (hF n)
   have f1:∀n,(F n).cell? ⟨w.heap.size,1,none⟩=some (.slice la g.nb lc):=λn=>ue g1 (hF n)
   have f2:∀n,(F n).cell? ⟨b,off+k*2,none⟩=some (.slice c (g.rule k).nl f):=λn=>ue N (hF n)
   have f3:∀n,(F n).cell? ⟨b,off+k*2+1,none⟩=some (.slice ba (g.rule k).bl bc):=λn=>ue c1 (hF n)
   have G:=ua (ay _ (Below.refl _ wr).drew);have v:=ua hF;have HF':=ua ay;clear hF ay;by_cases D:M.NameOK (g.rule k).nl (g.rule k).name
   ·have x:Hid (M.NameOK (g.rule k).nl (g.rule k).name):=D;clear D;by_cases C:M.BodyOK g.nr g.nb (g.rule k).bl (g.rule k).body
    ·have y:Hid (M.BodyOK g.nr g.nb (g.rule k).bl (g.rule k).body):=C;clear C;go_wp2_with fail;refine vv F (by kernel_rfl) (by kernel_rfl) G ?_;repeat (go_big_quiet_step (first|(go_at_call 65;exact ubQ (v _) HF' (qY x) ((kt Q c (g.rule k).nl f (g.rule k).name _ (z.later (v _)) l.byt l.name).mono (λe W q=>q.b)))|(go_at_call 66;exact ubQ (v _) HF' (qY y) (xL Q ba g.nr g.nb (g.rule k).bl bc (g.rule k).body _ (HO.later (v _)) h1 h2 l.body))))
     refine wpQuiet_nil ?_;rintro _ ⟨S,rfl⟩;obtain⟨V,hV⟩:=nm (F S);have bV:=hV▸v S;rw[hV];clear hV f0 f1 f2 f3 G v HF' S;have v0:=ue g0 bV;have v2:=ue N bV;have B:Hid (Below wr.heap.size wr V):=bV;have a7:∀n,(convert 22 9 (.slice c (g.rule k).nl f)).run Tryz.prog (V.drewN n)=.ok (.string (str (g.rule k).nl (g.rule k).name)) (V.drewN n):=λn=>vo Q c (g.rule k).nl f (g.rule k).name _ (z.later (below_drewN bV n))
     have a5:Hid ((str (g.rule k).nl (g.rule k).name).toList=u8s (g.rule k).nl (g.rule k).name):=ubU _ _;generalize str (g.rule k).nl (g.rule k).name=s1 at a7 a5;clear bV g0 g1 N c1;go_wp2;go_loopw [5] (λj T=>uta V g k j T) (λj _=>k-(intOf j).toNat)
     case atStart=>exact⟨0,0,Nat.zero_le _,rfl,rfl,λt ht=>absurd ht (Nat.not_lt_zero _)⟩
     case round =>
      obtain⟨m,d,hm,rfl,rfl,O⟩:=hrel;have Z:Hid (∀t,t<m->¬M.SameName (g.rule k) (g.rule t)):=O;clear O;by_cases bh:m<k
      ·have hmk':(m:Int)<(k:Int):=(by omega);have br:(m:Int)<(g.nr:Int):=(by omega);obtain⟨⟨E,I,d0,ae⟩,_⟩:=bd m (by omega);have v3:=ue d0 B;have hcv':∀n,(convert 22 9 (.slice E (g.rule m).nl I)).run Tryz.prog (V.drewN n)=.ok (.string (str (g.rule m).nl (g.rule m).name)) (V.drewN n):=λn=>vo Q E (g.rule m).nl I (g.rule m).name _ (ae.later (below_drewN B n))
       have a6:Hid ((str (g.rule m).nl (g.rule m).name).toList=u8s (g.rule m).nl (g.rule m).name):=ubU _ _;generalize str (g.rule m).nl (g.rule m).name=s2 at hcv' a6;have a3:Hid ((s1.toList=s2.toList)↔M.SameName (g.rule k) (g.rule m)):=by
        show _↔_;rw[a5.out,a6.out];exact udU _ _ l.byt (S1 m (by omega)).byt
       have bq:∀n,(convert 22 9 (.slice c (g.rule k).nl f)).run Tryz.prog ((V.drewN d).drewN n)=.ok (.string s1) ((V.drewN d).drewN n):=λn=>by rw[World.drewN_drewN];exact a7 _
       have hcw':∀n,(convert 22 9 (.slice E (g.rule m).nl I)).run Tryz.prog ((V.drewN d).drewN n)=.ok (.string s2) ((V.drewN d).drewN n):=λn=>by rw[World.drewN_drewN];exact hcv' _
       clear ae d0;by_cases es:s1.toList=s2.toList
       ·have fe:(s1.toList==s2.toList)=true:=(by simp[es]);have ap:=ua es;clear es;go_wp2_with fail;go_quiet (fail);go_wp2;go_ret;exact⟨⟨false,rfl,uV λq=>q.ru k u m bh (a3.1 ap)⟩,by first|exact below_drewN (uf X B) _|exact below_drewN (below_drewN (uf X B) _) _⟩
       have fe:(s1.toList==s2.toList)=false:=(by simp[es]);have ap:=ua es;clear es;go_wp2_with fail;go_quiet (fail);go_wp2;go_roundw
       case rel=>exact⟨m+1,_,by omega,by go_num,rfl,vC Z (λq=>ap (a3.2 q))⟩
       case measure=>simp[intOf];omega
      obtain rfl:m=k:=(by omega);go_wp2;go_roundw
      case rel=>exact⟨m+1,by omega,yT (by have:=ab.out;omega),by go_num,uf al.out (below_drewN B.out _),vC HA.out ⟨x.out,y.out,Z.out⟩⟩
      case measure=>simp[intOf];omega
    have y:Hid (¬M.BodyOK g.nr g.nb (g.rule k).bl (g.rule k).body):=C;clear C;go_wp2_with fail;refine vv F (by kernel_rfl) (by kernel_rfl) G ?_;repeat (go_big_quiet_step (first|(go_at_call 65;exact ubQ (v _) HF' (qY x) ((kt Q c (g.rule k).nl f (g.rule k).name _ (z.later (v _)) l.byt l.name).mono (λe W q=>q.b)))|(go_at_call 66;exact ubQ (v _) HF' (uV y) (xL Q ba g.nr g.nb (g.rule k).bl bc (g.rule k).body _ (HO.later (v _)) h1 h2 l.body))))
    refine wpQuiet_nil ?_;rintro _ ⟨S,rfl⟩;go_wp2;go_ret;exact⟨⟨false,rfl,uV λq=>y (q.rb k u)⟩,uf X (v S)⟩
   have x:Hid (¬M.NameOK (g.rule k).nl (g.rule k).name):=D;clear D;go_wp2_with fail;refine vv F (by kernel_rfl) (by kernel_rfl) G ?_;repeat (go_big_quiet_step (first|(go_at_call 65;exact ubQ (v _) HF' (uV x) ((kt Q c (g.rule k).nl f (g.rule k).name _ (z.later (v _)) l.byt l.name).mono (λe W q=>q.b)))))
   refine wpQuiet_nil ?_;rintro _ ⟨S,rfl⟩;go_wp2;go_ret;exact⟨⟨false,rfl,uV λq=>x (q.rn k u)⟩,uf X (v S)⟩
  obtain rfl:k=g.nr:=by omega
  obtain⟨W1,eW⟩:=nm wr;subst wr;have X:=ua P;have HL':=ua (HL.later P);have HR':=ua (HR.later P);have bn:M.sum (λi=>(g.rule i).bl) g.nr<=104857600:=by
   have h:=ugo (λi=>(g.rule i).bl) 1048576 g.nr (λi hi=>(S1 i hi).body.1);have:g.nr*1048576<=100*1048576:=Nat.mul_le_mul_right _ (by omega);omega
  have av:Hid (M.ops g=M.sum (λi=>(g.rule i).bl) g.nr+M.sum (λi=>(g.lab i).bl) g.nb):=rfl;clear s P HL HR;go_wp2;go_loopw [3,6] (λo i T=>usl W1 g o i T) (λo i _=>g.nb-(intOf i).toNat)
  case atStart=>exact⟨0,Nat.zero_le _,rfl,rfl,Below.refl _ _,λj hj=>absurd hj (Nat.not_lt_zero _)⟩
  case round =>
   obtain⟨m,hm,rfl,rfl,s,O⟩:=hrel;have Z:Hid (∀j,j<m->uoE g j):=O;clear O;have al:Hid (Below W1.heap.size W1 wr):=s;have Y:=ua (uf X s);have e0:=ue g0 s;have e1:=ue g1 s;have bp:=Nat.lt_of_lt_of_le a9 s.size;have bk:M.sum (λi=>(g.lab i).bl) m<=104857600:=by
    have h:=ugo (λi=>(g.lab i).bl) 1048576 m (λi hi=>(J i (by omega)).body.1);have:m*1048576<=100*1048576:=Nat.mul_le_mul_right _ (by omega);omega
   clear g0 g1 a9;by_cases u:m<g.nb
   ·have hlt':(m:Int)<(g.nb:Int):=(by omega);have ab:Hid (M.sum (λi=>(g.lab i).bl) (m+1)=M.sum (λi=>(g.lab i).bl) m+(g.lab m).bl):=rfl;have a4:=ua (HR'.later s);have hL:=HL'.later s;rcases hL with h0|⟨b,off,rfl,hq,hL⟩
    ·omega
    have aq:=ua hL;obtain⟨⟨c,f,N,hn⟩,c1,⟨ba,bc,c2,hb⟩⟩:=hL m u;have bg:=ud N;have a8:=(J m u).name;have bf:=(J m u).body.1;have l:Hid (uc2 (g.lab m)):=J m u;have z:Hid (∀o d,Ints Q .u8 ((wr.alloc o).drewN d) c (g.lab m).nl (g.lab m).name):=λo d=>hn.later (below_drewN (ui wr o) d)
    have HO:Hid (∀o d,OpsA Q ((wr.alloc o).drewN d) ba (g.lab m).bl (g.lab m).body):=λo d=>hb.later (below_drewN (ui wr o) d)
    have ag:Hid (∃sr,M.sum (λi=>(g.rule i).bl) g.nr=sr):=⟨_,rfl⟩;obtain⟨sr,a1⟩:=ag.out;rw[a1]at bn av ⊢;clear ag;have ag:Hid (M.sum (λi=>(g.rule i).bl) g.nr=sr):=a1;clear a1;generalize M.sum (λi=>(g.lab i).bl) m=so at bk ab ⊢;clear hL hb hn s;by_cases D:M.NameOK (g.lab m).nl (g.lab m).name
    ·have x:Hid (M.NameOK (g.lab m).nl (g.lab m).name):=D;have aa:Hid (∀o d,Calls Tryz.prog 65 #[.slice c (g.lab m).nl f] ((wr.alloc o).drewN d) λe w'=>e=.returned (.bool true)/\w'=(wr.alloc o).drewN d):=λo d =>
      (kt Q c (g.lab m).nl f (g.lab m).name _ (z o d) l.byt a8).mono (λe W h=>by obtain⟨⟨r,rfl,a⟩,rfl⟩:=h;rw[a.2 D];exact⟨rfl,rfl⟩)
     clear D;cases hh:(g.lab m).has;all_goals
      have HH:=ua hh;rw[hh]at c1;clear hh;rcases Nat.eq_zero_or_pos m with hz|hz
      focus
       have ah:Hid (0<m->M.LessName (g.lab (m-1)) (g.lab m)):=λq=>by omega
       have fz:decide (0<m)=false:=(by simp[hz]);have fz':decide ((0:Int)<(m:Int))=false:=(by simp[hz]);have hz':¬(0<m):=(by omega);clear hz;go_wp2_with fail;go_quiet (first|(go_at_call 65;exact Calls.quiet_of_same (aa _ _)))
      rotate_left
      focus
       obtain⟨p,hp⟩:∃p,m=p+1:=⟨m-1,by omega⟩;have HP:=ua hp;have em:(m:Int)-1=(p:Int):=(by omega);have bi:0<m:=(by omega);have hmp':(0:Int)<(m:Int):=(by omega);have a0:p<g.nb:=(by omega);have hpl':(p:Int)<(g.nb:Int):=(by omega);clear hz hp;obtain⟨⟨E,I,d0,ae⟩,_,_⟩:=aq p a0;have hI':∀o d,Ints Q .u8 ((wr.alloc o).drewN d) E (g.lab p).nl (g.lab p).name:=λo d=>ae.later (below_drewN (ui wr o) d)
       by_cases H:M.LessName (g.lab (m-1)) (g.lab m)
       rotate_left
       ·have ah:Hid (¬M.LessName (g.lab (m-1)) (g.lab m)):=H;have G:Hid (∀o d,Calls Tryz.prog 62 #[.slice E (g.lab p).nl I,.slice c (g.lab m).nl f] ((wr.alloc o).drewN d) λe w'=>e=.returned (.bool false)/\w'=(wr.alloc o).drewN d):=λo d =>
         (uba Q E c (g.lab p).nl I (g.lab m).nl f (g.lab p).name (g.lab m).name _ (hI' o d) (z o d) (J p a0).byt l.byt).mono (λe W h=>by
          obtain⟨⟨r,rfl,a⟩,rfl⟩:=h;rw[show m-1=p by have:=HP.out;omega]at H;obtain rfl:r=false:=(by { cases r;rfl;exact absurd (a.1 rfl) H });exact⟨rfl,rfl⟩)
        clear ae hI' H;go_wp2_with fail;go_quiet (first|(go_at_call 65;exact Calls.quiet_of_same (aa _ _))|(go_at_call 62;exact Calls.quiet_of_same (G _ _)));go_wp2;go_ret;exact⟨⟨false,rfl,uV λq=>ah (q.la m u bi)⟩,uf Y (below_drewN (ui wr _) _)⟩
       have ah:Hid (0<m->M.LessName (g.lab (m-1)) (g.lab m)):=λ_=>H
       have G:Hid (∀o d,Calls Tryz.prog 62 #[.slice E (g.lab p).nl I,.slice c (g.lab m).nl f] ((wr.alloc o).drewN d) λe w'=>e=.returned (.bool true)/\w'=(wr.alloc o).drewN d):=λo d =>
        (uba Q E c (g.lab p).nl I (g.lab m).nl f (g.lab p).name (g.lab m).name _ (hI' o d) (z o d) (J p a0).byt l.byt).mono (λe W h=>by
         obtain⟨⟨r,rfl,a⟩,rfl⟩:=h;rw[show m-1=p by have:=HP.out;omega]at H;rw[a.2 H];exact⟨rfl,rfl⟩)
       clear ae hI' H;go_wp2_with fail;go_quiet (first|(go_at_call 65;exact Calls.quiet_of_same (aa _ _))|(go_at_call 62;exact Calls.quiet_of_same (G _ _)))
      rotate_left
     iterate 2
      focus
       obtain⟨L,ai⟩:=nm ((wr.alloc (Obj.cells #[Value.slice c (g.lab m).nl f,Value.bool false,Value.slice ba (g.lab m).bl bc] 70)).drewN nq);have ac:=ai▸below_drewN (ui wr _) _;have v3:L.cell? ⟨wr.heap.size,1,none⟩=some (.bool false):=(by rw[<-ai];simp);have v2:L.cell? ⟨wr.heap.size,2,none⟩=some (.slice ba (g.lab m).bl bc):=(by rw[<-ai];simp);have v0:=ue e0 ac;have v1:=ue e1 ac;rw[ai];have B:Hid (Below wr.heap.size wr L):=ac;have be:=ua (a4.later ac);have bb:Hid (∀i,i<g.nb->LabC Q L b (off+i*3) (g.lab i)):=λi hi=>(aq i hi).later ac
       clear ai ac N c1 c2 e0 e1 z HO aa aq a4;go_wp2;go_loopw [8,9] (λt j T=>ukt L g.nr (λq=>M.Throws (g.rule q).bl (g.rule q).body m) False t j T) (λt j _=>g.nr-(intOf j).toNat)
       case atStart=>exact⟨0,false,Nat.zero_le _,rfl,rfl,rfl,uV (λq=>q.elim id (λ⟨_,h,_⟩=>absurd h (Nat.not_lt_zero _)))⟩
       case round =>
        obtain⟨q,bt,hq,rfl,rfl,a2,am⟩:=hrel;subst a2;by_cases ak:q<g.nr
        ·have hqn':(q:Int)<(g.nr:Int):=(by omega);have A:=be;rcases A with h0|⟨rb,ro,rfl,_,A⟩
         ·omega
         obtain⟨_,⟨aw,ax,d1,aj⟩⟩:=A q ak;have au:=ua aj;have af:=ua am;have az:=(S1 q ak).body.1;clear A aj am;cases bt with
         |true =>
          go_wp2;go_roundw
          case rel=>exact⟨q+1,true,by omega,by go_num,rfl,rfl,qY (by rw[ugp];exact(af.1 rfl).imp id .inl)⟩
          case measure=>simp[intOf];omega
         |false =>
          go_wp2_with (go_at_call 67;refine(jE Q aw (g.rule q).bl ax m (g.rule q).body _ au az).mono ?_;rintro e W ⟨⟨r,rfl,a⟩,R⟩;subst W;have HT:=ua a;clear a);go_roundw
          case rel=>first|exact⟨q+1,r,by omega,by go_num,rfl,rfl,ubR af.out HT.out⟩|((repeat apply Exists.intro);exact⟨⟨q+1,r,by omega,by go_num,rfl,rfl,ubR af.out HT.out⟩,rfl⟩)
          case measure=>simp[intOf];omega
        obtain rfl:q=g.nr:=(by omega);have af:=ua am;obtain⟨L,bo⟩:=nm wr;subst wr;clear am;go_wp2;go_loopw [8,10] (λt j T=>ukt L g.nb (λq=>M.Throws (g.lab q).bl (g.lab q).body m) (∃t,t<g.nr/\M.Throws (g.rule t).bl (g.rule t).body m) t j T) (λt j _=>g.nb-(intOf j).toNat)
        case atStart=>exact⟨0,bt,Nat.zero_le _,rfl,rfl,rfl,af.trans ⟨λh=>h.elim False.elim .inl,λh=>h.elim .inr (λ⟨_,h,_⟩=>absurd h (Nat.not_lt_zero _))⟩⟩
        case round =>
         obtain⟨q,bu,hq,rfl,rfl,a2,an⟩:=hrel;subst a2;by_cases ak:q<g.nb
         ·have hqn':(q:Int)<(g.nb:Int):=(by omega);obtain⟨_,_,⟨aw,ax,d1,aj⟩⟩:=bb q ak;have au:=ua aj;have U:=ua an;have az:=(J q ak).body.1;clear aj an;cases bu with
          |true =>
           go_wp2;go_roundw
           case rel=>exact⟨q+1,true,by omega,by go_num,rfl,rfl,qY (by rw[ugp];exact(U.1 rfl).imp id .inl)⟩
           case measure=>simp[intOf];omega
          |false =>
           go_wp2_with (go_at_call 67;refine(jE Q aw (g.lab q).bl ax m (g.lab q).body _ au az).mono ?_;rintro e W ⟨⟨r,rfl,a⟩,R⟩;subst W;have HT:=ua a;clear a);go_roundw
           case rel=>first|exact⟨q+1,r,by omega,by go_num,rfl,rfl,ubR U.out HT.out⟩|((repeat apply Exists.intro);exact⟨⟨q+1,r,by omega,by go_num,rfl,rfl,ubR U.out HT.out⟩,rfl⟩)
           case measure=>simp[intOf];omega
         obtain rfl:q=g.nb:=(by omega);have U:Hid (bu=true↔uoD g m):=an;clear an;cases bu with
         |false =>
          go_wp2;go_ret;exact⟨⟨false,rfl,uV λq=>absurd (U.2 (q.lt m u HH)) (by decide)⟩,uf Y B⟩
         |true =>
          by_cases ad:(g.lab m).bl=0
          ·have ao:Hid ((g.lab m).bl=0):=ad;have fz:(((g.lab m).bl:Int) != 0)=false:=(by simp[ad]);clear ad;go_wp2;go_roundw
           case rel=>exact⟨m+1,by omega,yT (by have:=ab.out;have:=ag.out;omega),by go_num,uf al.out B.out,vC Z.out ⟨x.out,ah.out,λq=>absurd (HH.out.symm.trans q) (by decide),λ_=>⟨U.out.1 rfl,ao.out⟩⟩⟩
           case measure=>simp[intOf];omega
          have ao:Hid (¬(g.lab m).bl=0):=ad;have fz:(((g.lab m).bl:Int) != 0)=true:=(by simp[ad]);clear ad;go_wp2;go_ret;exact⟨⟨false,rfl,uV λq=>ao (q.lz m u HH)⟩,uf Y B⟩
     all_goals
      by_cases C:M.BodyOK g.nr g.nb (g.lab m).bl (g.lab m).body
      ·have y:Hid (M.BodyOK g.nr g.nb (g.lab m).bl (g.lab m).body):=C;clear C;go_wp2_with (go_at_call 66;refine(xL Q ba g.nr g.nb (g.lab m).bl bc (g.lab m).body _ (HO _ _) h1 h2 l.body).mono ?_;rintro e W ⟨⟨r,rfl,a⟩,R⟩;obtain rfl:r=true:=a.2 y;have HW:Hid _:=R;clear a R);go_roundw
       case rel=>exact⟨m+1,by omega,yT (by have:=ab.out;have:=ag.out;omega),by go_num,uf al.out (uf (below_drewN (ui wr _) _) HW.out),vC Z.out ⟨x.out,ah.out,λ_=>y.out,λq=>absurd (HH.out.symm.trans q) (by decide)⟩⟩
       case measure=>simp[intOf];omega
      have y:Hid (¬M.BodyOK g.nr g.nb (g.lab m).bl (g.lab m).body):=C;clear C;go_wp2_with (go_at_call 66;refine(xL Q ba g.nr g.nb (g.lab m).bl bc (g.lab m).body _ (HO _ _) h1 h2 l.body).mono ?_;rintro e W ⟨⟨r,rfl,a⟩,R⟩;obtain rfl:r=false:=by { cases r;rfl;exact absurd (a.1 rfl) y };have HW:Hid _:=R;clear a R);go_ret;exact⟨⟨false,rfl,uV λq=>y (q.lb m u HH)⟩,uf Y (uf (below_drewN (ui wr _) _) HW)⟩
    have x:Hid (¬M.NameOK (g.lab m).nl (g.lab m).name):=D;have aa:Hid (∀o d,Calls Tryz.prog 65 #[.slice c (g.lab m).nl f] ((wr.alloc o).drewN d) λe w'=>e=.returned (.bool false)/\w'=(wr.alloc o).drewN d):=λo d =>
     (kt Q c (g.lab m).nl f (g.lab m).name _ (z o d) l.byt a8).mono (λe W h=>by
      obtain⟨⟨r,rfl,a⟩,rfl⟩:=h;obtain rfl:r=false:=(by { cases r;rfl;exact absurd (a.1 rfl) x });exact⟨rfl,rfl⟩)
    go_wp2_with fail;go_quiet (first|(go_at_call 65;exact Calls.quiet_of_same (aa _ _)));go_wp2;go_ret;exact⟨⟨false,rfl,uV λq=>x (q.ln m u)⟩,uf Y (below_drewN (ui wr _) _)⟩
   obtain rfl:m=g.nb:=(by omega);go_wp2;go_ret;refine⟨⟨_,rfl,?_⟩,Y⟩;rw[ujk];simp only[decide_eq_true_eq];constructor
   ·intro q;exact⟨by omega,by omega,by omega,HA,Z,by rw[av.out];omega⟩
   rintro⟨_,_,_,_,_,q⟩;rw[av.out]at q;omega
def ucd(g:Gr)(p:Nat):Prop:=(nd g p).bl=0\/M.BodyOK g.nr g.nb (nd g p).bl (nd g p).body
theorem kE{g}(h:M.Valid g){p}(b:p<g.nr+g.nb):ucd g p:=by
 unfold ucd;by_cases e:p<g.nr
 ·rw[vT g e];exact .inr (h.rb p e)
 obtain⟨i,rfl⟩:∃i,p=g.nr+i:=⟨p-g.nr,by omega⟩;rw[yR];cases a:(g.lab i).has with
 |true=>exact .inr (h.lb i (by omega) a)
 |false=>exact .inl (h.lz i (by omega) a)
def vr(g:Gr)(mk:Nat->Bool)(p:Nat):Bool:=M.nulB g.nr mk (nd g p).bl (nd g p).body
theorem uqu B n(h:M.Fed B n)(a:0<n):1<=M.dep B n:=by
 obtain⟨q,rfl⟩:∃q,n=q+1:=⟨n-1,by omega⟩;have:=h q (by omega);rw[M.dep];omega
theorem uax{α}[Inhabited α](f:OpD->α->α->α)(B:Nat->OpD)(n:Nat)(h:M.Shape n B):M.stk f B n=(0,M.top (M.stk f B n))::M.stk f B 0:=by
 have d:M.Fed B n:=h.1;have c:=M.stk_len f B n d;rw[h.2]at c;match hs:M.stk f B n with
 |[]=>rw[hs]at c;simp at c
 |[(s,x)] =>
  obtain⟨i,g,_⟩:=M.stk_cons f B n d s x _ hs;have l2:=M.stk_len f B s (d.less (by omega));rw[<-g]at l2;have:s=0:=by
   by_cases e:s=0
   ·exact e
   have:=uqu B s (d.less (by omega)) (by omega);simp at l2;omega
  subst this;rfl
 |a::b::r=>rw[hs]at c;simp at c;omega
structure ush(Q:Nat->Prop)(d:ug)(w:World)(e:Ending)(w':World):Prop where
 val:∃a c,e=.returned (.slice a d.bl c)/\OpsA Q w' a d.bl d.body/\d.bl<=c
 bel:Below w.heap.size w w'
theorem kF Q q la u lc g w(o:GramX Q w q la g)(v:g.nr<=100)(x:g.nb<=100)p(z:p<g.nr+g.nb) :
  Calls Tryz.prog 55 #[.agg #[.slice q g.nr u,.slice la g.nb lc],.int .i64 (p:Int)] w (ush Q (nd g p) w):=by
 by_cases e:p<g.nr
 ·rw[vT g e];rcases o.rules with r|⟨b,off,rfl,t,k⟩
  ·omega
  obtain⟨⟨_,⟨c,d,a,m⟩⟩,⟨ba,bc,f,n⟩⟩:=k p e;have l:c=ba/\d=bc:=by rw[f]at a;simp at a;exact⟨a.1.symm,a.2.symm⟩
  obtain⟨rfl,rfl⟩:=l;have h:=ua m;have s:=ud f;have j:=ua n;go_enter Tryz.func55,Tryz.ntmps55;go_wp2;go_ret;exact⟨⟨c,d,rfl,h.later (ui w _),j⟩,ui w _⟩
 obtain⟨i,rfl⟩:∃i,p=g.nr+i:=⟨p-g.nr,by omega⟩;rw[yR];rcases o.labs with r|⟨b,off,rfl,t,k⟩
 ·omega
 obtain⟨⟨_,_,⟨c,d,a,m⟩⟩,⟨ba,bc,f,n⟩⟩:=k i (by omega);have l:c=ba/\d=bc:=by rw[f]at a;simp at a;exact⟨a.1.symm,a.2.symm⟩
 obtain⟨rfl,rfl⟩:=l;have h:=ua m;have s:=ud f;have j:=ua n;have y:i<g.nb:=by omega
 have A:¬((g.nr+i:Nat):Int)<(g.nr:Int):=by omega
 have B:((g.nr+i:Nat):Int)-(g.nr:Int)=(i:Int):=by omega
 go_enter Tryz.func55,Tryz.ntmps55;go_wp2;go_ret;exact⟨⟨c,d,rfl,h.later (ui w _),j⟩,ui w _⟩
theorem ucE b la nr c a lc w(d:nr<=100)(f:a<=100) :
  Calls Tryz.prog 54 #[.agg #[.slice b nr c,.slice la a lc]] w λe w'=>e=.returned (.int .i64 ((nr+a:Nat):Int))/\Below w.heap.size w w':=by
 go_enter Tryz.func54,Tryz.ntmps54;go_wp2;go_ret;exact⟨uD (by omega),ui w _⟩
end Go.Proofs.YtimfigongapdnaaGreat
