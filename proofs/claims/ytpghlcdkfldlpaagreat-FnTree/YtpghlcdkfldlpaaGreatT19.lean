import Derived.Test.YtpghlcdkfldlpaaGreatT18
set_option linter.unusedVariables false
set_option linter.unusedSimpArgs false
set_option maxHeartbeats 40000000
set_option maxRecDepth 100000
namespace Go.Proofs.YtpghlcdkfldlpaaGreat
open Go.RowKit
open M (OpD ue Gr)
theorem uE{P:Program}{ι:Type}(F:ι->World){f:Nat}{Q:Exit->Act->World->Prop}{a:Act}{w}{l:List Oper}(e:P.follows .mixedOrders=true)(c:Region.lexB .any l.toArray=true)(d:∃n,w.drew=F n)(h:wpQuiet P l.toArray (fun w'=>∃n,w'=F n) (fun b=>∀w',(∃n,w'=F n)->Q .normal b w') l a):(Code.region f l.toArray true).wp P Q a w :=
  wp_region_quiet (C:=fun w'=>∃n,w'=F n) e c d (by simpa using h)
theorem jz w:∃(ι:Type) (_:Nonempty ι) (F:ι->World),(∀n,Below w.heap.size w (F n))/\∀W,Below w.heap.size w W->∃n,W=F n :=
  ⟨{W:World // Below w.heap.size w W},⟨⟨w,Below.refl _ w⟩⟩,Subtype.val,fun n=>n.2,fun W h=>⟨⟨W,h⟩,rfl⟩⟩
theorem ubJ{P:Prop}{ι:Type}{F:ι->World}{w}{f:FuncId}{args:Array Value}{n:ι}(g:Below w.heap.size w (F n))(i:∀W,Below w.heap.size w W->∃n,W=F n){r:Bool}(b:r=true↔P)(h:Calls Tryz.prog f args (F n) (xS P (F n))):Calls Tryz.prog f args (F n) fun e j=>e=.returned (.bool r)/\∃m,j=F m :=
  h.mono fun e W q=>by
    obtain⟨⟨c,rfl,a⟩,d⟩:=q;have:c=r:=by
      cases r<;>cases c<;>first|rfl | exact absurd (b.2 (a.1 rfl)) (by decide) | exact absurd (a.2 (b.1 rfl)) (by decide)
    exact⟨by rw[this],i W (ud g d)⟩
def ui3(g:Gr)(i:Nat):Prop:=M.NameOK (g.rule i).nl (g.rule i).name/\M.BodyOK g.nr g.nb (g.rule i).bl (g.rule i).body/\∀j,j<i->¬M.SameName (g.rule i) (g.rule j)
def unP(g:Gr)(i:Nat):Prop:=(∃j,j<g.nr/\M.Throws (g.rule j).bl (g.rule j).body i)\/∃j,j<g.nb/\M.Throws (g.lab j).bl (g.lab j).body i
def unQ(g:Gr)(i:Nat):Prop:=M.NameOK (g.lab i).nl (g.lab i).name/\(0<i->M.LessName (g.lab (i-1)) (g.lab i)) /\
  ((g.lab i).has=true->M.BodyOK g.nr g.nb (g.lab i).bl (g.lab i).body)/\((g.lab i).has=false->unP g i/\(g.lab i).bl=0)
theorem ui4 g:M.Valid g↔0<g.nr/\g.nr<=100/\g.nb<=100/\(∀i,i<g.nr->ui3 g i)/\(∀i,i<g.nb->unQ g i)/\M.ops g<=2000:=by
  constructor
  · intro h
    exact⟨h.r1,h.r2,h.l2,fun i a=>⟨h.rn i a,h.rb i a,h.ru i a⟩,fun i a=>⟨h.ln i a,h.la i a,h.lb i a,fun q=>⟨h.lt i a q,h.lz i a q⟩⟩,h.ol⟩
  · rintro⟨d,e,f,c,b,j⟩
    exact { r1:=d,r2:=e,l2:=f,rn:=fun i a=>(c i a).1,ru:=fun i a=>(c i a).2.2,ln:=fun i a=>(b i a).1,la:=fun i a=>(b i a).2.1,
            rb:=fun i a=>(c i a).2.1,lb:=fun i a=>(b i a).2.2.1,lz:=fun i a q=>((b i a).2.2.2 q).2,lt:=fun i a q=>((b i a).2.2.2 q).1,ol:=j }
theorem uf5 f N:∀n,(∀i,i<n->f i<=N)->M.sum f n<=n*N
  |0,_=>Nat.zero_le _
  |n+1,h=>by
    have a:=uf5 f N n (fun i c=>h i (by omega))
    have b:=h n (by omega)
    rw[M.sum,Nat.add_mul];omega
def upt(W1:World)(g:Gr)(o i:Value)(wr:World):Prop :=
  ∃k:Nat,k<=g.nr/\o=.int .i64 ((M.sum (fun i=>(g.rule i).bl) k:Nat):Int)/\i=.int .i64 (k:Int)/\Below W1.heap.size W1 wr/\∀j,j<k->ui3 g j
def urS(V:World)(g:Gr)(k:Nat)(j:Value)(wr:World):Prop :=
  ∃m d:Nat,m<=k/\j=.int .i64 (m:Int)/\wr=V.drewN d/\∀t,t<m->¬M.SameName (g.rule k) (g.rule t)
def ura(W1:World)(g:Gr)(o i:Value)(wr:World):Prop :=
  ∃k:Nat,k<=g.nb/\o=.int .i64 ((M.sum (fun i=>(g.rule i).bl) g.nr+M.sum (fun i=>(g.lab i).bl) k:Nat):Int)/\i=.int .i64 (k:Int)/\Below W1.heap.size W1 wr/\∀j,j<k->unQ g j
def ucZ(V:World)(n:Nat)(p:Nat->Prop)(a:Prop)(t j:Value)(wr:World):Prop :=
  ∃(m:Nat) (b:Bool),m<=n/\j=.int .i64 (m:Int)/\t=.bool b/\wr=V/\(b=true↔a\/∃q,q<m/\p q)
theorem vz{p:Nat->Prop}{m:Nat}:(∃q,q<m+1/\p q)↔(∃q,q<m/\p q)\/p m:=by
  constructor
  · rintro⟨q,a,h⟩
    by_cases e:q=m
    · subst e;exact .inr h
    · exact .inl ⟨q,by omega,h⟩
  · rintro (⟨q,a,h⟩ | h)
    · exact⟨q,by omega,h⟩
    · exact⟨m,by omega,h⟩
theorem qw Q ra la rc lc g w(hG:GramA Q w ra la g)(hs:vP g) :
    Calls Tryz.prog 29 #[.agg #[.slice ra g.nr rc,.slice la g.nb lc]] w (xS (M.Valid g) w):=by
  have h1:=hs.nr;have h2:=hs.nb;by_cases n1:g.nr<1
  · have t1:(g.nr:Int)<1:=by omega
    go_enter Tryz.func29,Tryz.ntmps29;go_wp2;go_ret;exact⟨⟨false,rfl,uJ fun q=>by have:=q.r1;omega⟩,uf w _⟩
  have t1:¬(g.nr:Int)<1:=by omega
  by_cases n2:100<g.nr
  · have t2:(100:Int)<(g.nr:Int):=by omega
    go_enter Tryz.func29,Tryz.ntmps29;go_wp2;go_ret;exact⟨⟨false,rfl,uJ fun q=>by have:=q.r2;omega⟩,uf w _⟩
  have t2:¬(100:Int)<(g.nr:Int):=by omega
  by_cases n3:100<g.nb
  · have t3:(100:Int)<(g.nb:Int):=by omega
    go_enter Tryz.func29,Tryz.ntmps29;go_wp2;go_ret;exact⟨⟨false,rfl,uJ fun q=>by have:=q.l2;omega⟩,uf w _⟩
  have t3:¬(100:Int)<(g.nb:Int):=by omega
  have HR:=ua hG.rules;have HL:=ua hG.labs;have S1:=ua hs.rule;have S2:=ua hs.lab;go_enter Tryz.func29,Tryz.ntmps29;go_wp2;go_loopw [3,4] (fun o i wr=>upt (w.alloc (.cells #[.slice ra g.nr rc,.slice la g.nb lc] 28)) g o i wr) (fun o i _=>g.nr-(intOf i).toNat)
  case atStart=>exact⟨0,Nat.zero_le _,rfl,rfl,Below.refl _ _,fun j hj=>absurd hj (Nat.not_lt_zero _)⟩
  case round =>
    obtain⟨k,hk,rfl,rfl,A,ak⟩:=hrel;have HA:Hid (∀j,j<k->ui3 g j):=ak;have am:=ud (uf w _) A;have g0:wr.cell? ⟨w.heap.size,0,none⟩=some (.slice ra g.nr rc):=uc (by simp) A
    have g1:wr.cell? ⟨w.heap.size,1,none⟩=some (.slice la g.nb lc):=uc (by simp) A
    have a8:w.heap.size<wr.heap.size:=by have:=A.size;simp at this;omega
    by_cases f:k<g.nr
    · have hlt':(k:Int)<(g.nr:Int):=by omega
      have D:=HR.later am;rcases D with h0 | ⟨b,off,rfl,hq,D⟩
      · omega
      obtain⟨⟨s,v,c0,hn⟩,⟨ba,bc,c1,hb⟩⟩:=D k f;have be:=ub c0;have bh:M.sum (fun i=>(g.rule i).bl) k<=k*1048576:=uf5 _ _ _ (fun i hi=>(S1.out i (by omega)).body.1)
      have bj:M.sum (fun i=>(g.rule i).bl) k<=104857600:=by have:k*1048576<=100*1048576:=Nat.mul_le_mul_right _ (by omega);omega
      have bd:=(S1 k f).body.1;have af:Hid (M.sum (fun i=>(g.rule i).bl) (k+1)=M.sum (fun i=>(g.rule i).bl) k+(g.rule k).bl):=rfl
      generalize M.sum (fun i=>(g.rule i).bl) k=so at bj af bh ⊢
      have ap:=ua am;have ao:Hid (Below (w.alloc (.cells #[.slice (some ⟨b,off,none⟩) g.nr rc,.slice la g.nb lc] 28)).heap.size (w.alloc (.cells #[.slice (some ⟨b,off,none⟩) g.nr rc,.slice la g.nb lc] 28)) wr):=A;have HO:=ua hb;have P:=ua hn;have a9:=ua D;have SB:=S1 k f;have u:=ua SB;clear D am A hn hb SB;obtain⟨ι,bp,F,hF,a0⟩:=jz wr;have f0:∀n,(F n).cell? ⟨w.heap.size,0,none⟩=some (.slice (some ⟨b,off,none⟩) g.nr rc):=fun n=>uc g0 (hF n)
      have f1:∀n,(F n).cell? ⟨w.heap.size,1,none⟩=some (.slice la g.nb lc):=fun n=>uc g1 (hF n)
      have f2:∀n,(F n).cell? ⟨b,off+k*2,none⟩=some (.slice s (g.rule k).nl v):=fun n=>uc c0 (hF n)
      have f3:∀n,(F n).cell? ⟨b,off+k*2+1,none⟩=some (.slice ba (g.rule k).bl bc):=fun n=>uc c1 (hF n)
      have HC:=ua (a0 _ (Below.refl _ wr).drew);have E:=ua hF;have HF':=ua a0;clear hF a0;by_cases en:M.NameOK (g.rule k).nl (g.rule k).name
      · have G:Hid (M.NameOK (g.rule k).nl (g.rule k).name):=en
        clear en;by_cases H:M.BodyOK g.nr g.nb (g.rule k).bl (g.rule k).body
        · have x:Hid (M.BodyOK g.nr g.nb (g.rule k).bl (g.rule k).body):=H
          clear H;go_wp2_with fail;refine uE F (by kernel_rfl) (by kernel_rfl) HC ?_
          repeat (go_big_quiet_step (first|(go_at_call 64;exact ubJ (E _) HF' (xI G) ((kQ Q s (g.rule k).nl v (g.rule k).name _ (P.later (E _)) u.byt u.name).mono (fun e W q=>q.b)))|(go_at_call 65;exact ubJ (E _) HF' (xI x) (yF Q ba g.nr g.nb (g.rule k).bl bc (g.rule k).body _ (HO.later (E _)) h1 h2 u.body))))
          refine wpQuiet_nil ?_;rintro _ ⟨nq,rfl⟩;obtain⟨V,hV⟩:=nm (F nq);have bV:=hV▸E nq;rw[hV];clear hV f0 f1 f2 f3 HC E HF' nq;have v0:=uc g0 bV;have v2:=uc c0 bV;have I:Hid (Below wr.heap.size wr V):=bV;have a6:∀n,(convert 22 9 (.slice s (g.rule k).nl v)).run Tryz.prog (V.drewN n)=.ok (.string (str (g.rule k).nl (g.rule k).name)) (V.drewN n):=fun n=>vD Q s (g.rule k).nl v (g.rule k).name _ (P.later (below_drewN bV n))
          have a4:Hid ((str (g.rule k).nl (g.rule k).name).toList=u8s (g.rule k).nl (g.rule k).name):=ubL _ _;generalize str (g.rule k).nl (g.rule k).name=s1 at a6 a4;clear bV g0 g1 c0 c1;go_wp2;go_loopw [5] (fun j Z=>urS V g k j Z) (fun j _=>k-(intOf j).toNat)
          case atStart=>exact⟨0,0,Nat.zero_le _,rfl,rfl,fun t ht=>absurd ht (Nat.not_lt_zero _)⟩
          case round =>
            obtain⟨m,d,hm,rfl,rfl,ak⟩:=hrel;have HM:Hid (∀t,t<m->¬M.SameName (g.rule k) (g.rule t)):=ak;clear ak;by_cases bf:m<k
            · have hmk':(m:Int)<(k:Int):=by omega
              have bo:(m:Int)<(g.nr:Int):=by omega
              obtain⟨⟨ae,ag,d0,aq⟩,_⟩:=a9 m (by omega)
              have v3:=uc d0 I;have hcv':∀n,(convert 22 9 (.slice ae (g.rule m).nl ag)).run Tryz.prog (V.drewN n)=.ok (.string (str (g.rule m).nl (g.rule m).name)) (V.drewN n):=fun n=>vD Q ae (g.rule m).nl ag (g.rule m).name _ (aq.later (below_drewN I n))
              have a5:Hid ((str (g.rule m).nl (g.rule m).name).toList=u8s (g.rule m).nl (g.rule m).name):=ubL _ _;generalize str (g.rule m).nl (g.rule m).name=s2 at hcv' a5;have a3:Hid ((s1.toList=s2.toList)↔M.SameName (g.rule k) (g.rule m)):=by
                show _↔_;rw[a4.out,a5.out];exact udO _ _ u.byt (S1 m (by omega)).byt
              have bn:∀n,(convert 22 9 (.slice s (g.rule k).nl v)).run Tryz.prog ((V.drewN d).drewN n)=.ok (.string s1) ((V.drewN d).drewN n):=fun n=>by rw[World.drewN_drewN];exact a6 _
              have hcw':∀n,(convert 22 9 (.slice ae (g.rule m).nl ag)).run Tryz.prog ((V.drewN d).drewN n)=.ok (.string s2) ((V.drewN d).drewN n):=fun n=>by rw[World.drewN_drewN];exact hcv' _
              clear aq d0;by_cases es:s1.toList=s2.toList
              · have fe:(s1.toList==s2.toList)=true:=by simp[es]
                have aw:=ua es;clear es;go_wp2_with fail;go_quiet (fail);go_wp2;go_ret;exact⟨⟨false,rfl,uJ fun q=>q.ru k f m bf (a3.1 aw)⟩,by first|exact below_drewN (ud ap I) _ | exact below_drewN (below_drewN (ud ap I) _) _⟩
              · have fe:(s1.toList==s2.toList)=false:=by simp[es]
                have aw:=ua es;clear es;go_wp2_with fail;go_quiet (fail);go_wp2;go_roundw
                case rel=>exact⟨m+1,_,by omega,by go_num,rfl,vB HM (fun q=>aw (a3.2 q))⟩
                case measure=>simp[intOf];omega
            · obtain rfl:m=k:=by omega
              go_wp2;go_roundw
              case rel=>exact⟨m+1,by omega,yL (by have:=af.out;omega),by go_num,ud ao.out (below_drewN I.out _),vB HA.out ⟨G.out,x.out,HM.out⟩⟩
              case measure=>simp[intOf];omega
        · have x:Hid (¬M.BodyOK g.nr g.nb (g.rule k).bl (g.rule k).body):=H
          clear H;go_wp2_with fail;refine uE F (by kernel_rfl) (by kernel_rfl) HC ?_
          repeat (go_big_quiet_step (first|(go_at_call 64;exact ubJ (E _) HF' (xI G) ((kQ Q s (g.rule k).nl v (g.rule k).name _ (P.later (E _)) u.byt u.name).mono (fun e W q=>q.b)))|(go_at_call 65;exact ubJ (E _) HF' (uJ x) (yF Q ba g.nr g.nb (g.rule k).bl bc (g.rule k).body _ (HO.later (E _)) h1 h2 u.body))))
          refine wpQuiet_nil ?_;rintro _ ⟨nq,rfl⟩;go_wp2;go_ret;exact⟨⟨false,rfl,uJ fun q=>x (q.rb k f)⟩,ud ap (E nq)⟩
      · have G:Hid (¬M.NameOK (g.rule k).nl (g.rule k).name):=en
        clear en;go_wp2_with fail;refine uE F (by kernel_rfl) (by kernel_rfl) HC ?_
        repeat (go_big_quiet_step (first|(go_at_call 64;exact ubJ (E _) HF' (uJ G) ((kQ Q s (g.rule k).nl v (g.rule k).name _ (P.later (E _)) u.byt u.name).mono (fun e W q=>q.b)))))
        refine wpQuiet_nil ?_;rintro _ ⟨nq,rfl⟩;go_wp2;go_ret;exact⟨⟨false,rfl,uJ fun q=>G (q.rn k f)⟩,ud ap (E nq)⟩
    · obtain rfl:k=g.nr:=by omega
      obtain⟨W1,eW⟩:=nm wr;subst wr;have ap:=ua am;have HL':=ua (HL.later am);have HR':=ua (HR.later am);have bk:M.sum (fun i=>(g.rule i).bl) g.nr<=104857600:=by
        have h:=uf5 (fun i=>(g.rule i).bl) 1048576 g.nr (fun i hi=>(S1 i hi).body.1)
        have:g.nr*1048576<=100*1048576:=Nat.mul_le_mul_right _ (by omega)
        omega
      have ay:Hid (M.ops g=M.sum (fun i=>(g.rule i).bl) g.nr+M.sum (fun i=>(g.lab i).bl) g.nb):=rfl
      clear A am HL HR;go_wp2;go_loopw [3,6] (fun o i Z=>ura W1 g o i Z) (fun o i _=>g.nb-(intOf i).toNat)
      case atStart=>exact⟨0,Nat.zero_le _,rfl,rfl,Below.refl _ _,fun j hj=>absurd hj (Nat.not_lt_zero _)⟩
      case round =>
        obtain⟨m,hm,rfl,rfl,A,ak⟩:=hrel;have HM:Hid (∀j,j<m->unQ g j):=ak;clear ak;have ao:Hid (Below W1.heap.size W1 wr):=A;have ab:=ua (ud ap A);have e0:=uc g0 A;have e1:=uc g1 A;have bm:=Nat.lt_of_lt_of_le a8 A.size;have bi:M.sum (fun i=>(g.lab i).bl) m<=104857600:=by
          have h:=uf5 (fun i=>(g.lab i).bl) 1048576 m (fun i hi=>(S2 i (by omega)).body.1)
          have:m*1048576<=100*1048576:=Nat.mul_le_mul_right _ (by omega)
          omega
        clear g0 g1 a8;by_cases f:m<g.nb
        · have hlt':(m:Int)<(g.nb:Int):=by omega
          have af:Hid (M.sum (fun i=>(g.lab i).bl) (m+1)=M.sum (fun i=>(g.lab i).bl) m+(g.lab m).bl):=rfl
          have av:=ua (HR'.later A);have hL:=HL'.later A;rcases hL with h0 | ⟨b,off,rfl,hq,hL⟩
          · omega
          have au:=ua hL;obtain⟨⟨s,v,c0,hn⟩,c1,⟨ba,bc,c2,hb⟩⟩:=hL m f;have be:=ub c0;have a7:=(S2 m f).name;have bd:=(S2 m f).body.1;have u:Hid (uc1 (g.lab m)):=S2 m f;have P:Hid (∀o d,Ints Q .u8 ((wr.alloc o).drewN d) s (g.lab m).nl (g.lab m).name):=fun o d=>hn.later (below_drewN (uf wr o) d)
          have HO:Hid (∀o d,OpsA Q ((wr.alloc o).drewN d) ba (g.lab m).bl (g.lab m).body):=fun o d=>hb.later (below_drewN (uf wr o) d)
          have ai:Hid (∃sr,M.sum (fun i=>(g.rule i).bl) g.nr=sr):=⟨_,rfl⟩
          obtain⟨sr,a2⟩:=ai.out;rw[a2]at bk ay ⊢;clear ai;have ai:Hid (M.sum (fun i=>(g.rule i).bl) g.nr=sr):=a2
          clear a2;generalize M.sum (fun i=>(g.lab i).bl) m=so at bi af ⊢
          clear hL hb hn A;by_cases en:M.NameOK (g.lab m).nl (g.lab m).name
          · have G:Hid (M.NameOK (g.lab m).nl (g.lab m).name):=en
            have ac:Hid (∀o d,Calls Tryz.prog 64 #[.slice s (g.lab m).nl v] ((wr.alloc o).drewN d) fun e w'=>e=.returned (.bool true)/\w'=(wr.alloc o).drewN d):=fun o d =>
              (kQ Q s (g.lab m).nl v (g.lab m).name _ (P o d) u.byt a7).mono (fun e W h=>by obtain⟨⟨r,rfl,a⟩,rfl⟩:=h;rw[a.2 en];exact⟨rfl,rfl⟩)
            clear en;by_cases hz:m=0
            · have aj:Hid (0<m->M.LessName (g.lab (m-1)) (g.lab m)):=fun q=>by omega
              have fz:decide (0<m)=false:=by simp[hz]
              have fz':decide ((0:Int)<(m:Int))=false:=by simp[hz]
              have hz':¬(0<m):=by omega
              clear hz;cases N:(g.lab m).has with
              |true =>
                have J:Hid ((g.lab m).has=true):=N;rw[N]at c1;clear N;go_wp2_with fail;go_quiet (first|(go_at_call 64;exact Calls.quiet_of_same (ac _ _)))
                by_cases H:M.BodyOK g.nr g.nb (g.lab m).bl (g.lab m).body
                · have x:Hid (M.BodyOK g.nr g.nb (g.lab m).bl (g.lab m).body):=H
                  clear H;go_wp2_with (go_at_call 65;refine (yF Q ba g.nr g.nb (g.lab m).bl bc (g.lab m).body _ (HO _ _) h1 h2 u.body).mono ?_;rintro e W ⟨⟨r,rfl,a⟩,l⟩;obtain rfl:r=true:=a.2 x;have HW:Hid _:=l;clear a l);go_roundw
                  case rel=>exact⟨m+1,by omega,yL (by have:=af.out;have:=ai.out;omega),by go_num,ud ao.out (ud (below_drewN (uf wr _) _) HW.out),vB HM.out ⟨G.out,aj.out,fun _=>x.out,fun q=>absurd (J.out.symm.trans q) (by decide)⟩⟩
                  case measure=>simp[intOf];omega
                · have x:Hid (¬M.BodyOK g.nr g.nb (g.lab m).bl (g.lab m).body):=H
                  clear H;go_wp2_with (go_at_call 65;refine (yF Q ba g.nr g.nb (g.lab m).bl bc (g.lab m).body _ (HO _ _) h1 h2 u.body).mono ?_;rintro e W ⟨⟨r,rfl,a⟩,l⟩;obtain rfl:r=false:=by { cases r;rfl;exact absurd (a.1 rfl) x };have HW:Hid _:=l;clear a l)
                  go_ret;exact⟨⟨false,rfl,uJ fun q=>x (q.lb m f J)⟩,ud ab (ud (below_drewN (uf wr _) _) HW)⟩
              |false =>
                have J:Hid ((g.lab m).has=false):=N;rw[N]at c1;clear N;go_wp2_with fail;go_quiet (first|(go_at_call 64;exact Calls.quiet_of_same (ac _ _)))
                obtain⟨C,U⟩:=nm ((wr.alloc (Obj.cells #[Value.slice s (g.lab m).nl v,Value.bool false,Value.slice ba (g.lab m).bl bc] 73)).drewN nq);have L:=U▸below_drewN (uf wr _) _;have v3:C.cell? ⟨wr.heap.size,1,none⟩=some (.bool false):=by rw[<-U];simp
                have v2:C.cell? ⟨wr.heap.size,2,none⟩=some (.slice ba (g.lab m).bl bc):=by rw[<-U];simp
                have v0:=uc e0 L;have v1:=uc e1 L;rw[U];have I:Hid (Below wr.heap.size wr C):=L;have az:=ua (av.later L);have ax:Hid (∀i,i<g.nb->LabC Q C b (off+i*3) (g.lab i)):=fun i hi=>(au i hi).later L
                clear U L c0 c1 c2 e0 e1 P HO ac au av;go_wp2;go_loopw [8,9] (fun t j Z=>ucZ C g.nr (fun q=>M.Throws (g.rule q).bl (g.rule q).body m) False t j Z) (fun t j _=>g.nr-(intOf j).toNat)
                case atStart=>exact⟨0,false,Nat.zero_le _,rfl,rfl,rfl,uJ (fun q=>q.elim id (fun ⟨_,h,_⟩=>absurd h (Nat.not_lt_zero _)))⟩
                case round =>
                  obtain⟨q,bt,hq,rfl,rfl,an,ad⟩:=hrel;subst an;by_cases Y:q<g.nr
                  · have hqn':(q:Int)<(g.nr:Int):=by omega
                    have D:=az;rcases D with h0 | ⟨rb,ro,rfl,_,D⟩
                    · omega
                    obtain⟨_,⟨S,T,d1,aa⟩⟩:=D q Y;have R:=ua aa;have B:=ua ad;have X:=(S1 q Y).body.1;clear D aa ad;cases bt with
                    |true =>
                      go_wp2;go_roundw
                      case rel=>exact⟨q+1,true,by omega,by go_num,rfl,rfl,xI (by rw[vz];exact (B.1 rfl).imp id .inl)⟩
                      case measure=>simp[intOf];omega
                    |false =>
                      by_cases z:M.Throws (g.rule q).bl (g.rule q).body m
                      · have c:Hid (M.Throws (g.rule q).bl (g.rule q).body m):=z
                        clear z;go_wp2_with (go_at_call 66;refine (vE Q S (g.rule q).bl T m (g.rule q).body _ R X).mono ?_;rintro e W ⟨⟨r,rfl,a⟩,l⟩;subst W;obtain rfl:r=true:=a.2 c;clear a);go_roundw
                        case rel=>first|exact⟨q+1,true,by omega,by go_num,rfl,rfl,xI (by rw[vz];exact .inr (.inr c))⟩|((repeat apply Exists.intro);exact⟨⟨q+1,true,by omega,by go_num,rfl,rfl,xI (by rw[vz];exact .inr (.inr c))⟩,rfl⟩)
                        case measure=>simp[intOf];omega
                      · have c:Hid (¬M.Throws (g.rule q).bl (g.rule q).body m):=z
                        clear z;go_wp2_with (go_at_call 66;refine (vE Q S (g.rule q).bl T m (g.rule q).body _ R X).mono ?_;rintro e W ⟨⟨r,rfl,a⟩,l⟩;subst W;obtain rfl:r=false:=by { cases r;rfl;exact absurd (a.1 rfl) c };clear a)
                        go_roundw
                        case rel=>first|exact⟨q+1,false,by omega,by go_num,rfl,rfl,uJ (by rw[vz];exact fun h=>h.elim (fun h=>absurd (B.2 (.inl h)) (by decide)) (fun h=>h.elim (fun h=>absurd (B.2 (.inr h)) (by decide)) c))⟩|((repeat apply Exists.intro);exact⟨⟨q+1,false,by omega,by go_num,rfl,rfl,uJ (by rw[vz];exact fun h=>h.elim (fun h=>absurd (B.2 (.inl h)) (by decide)) (fun h=>h.elim (fun h=>absurd (B.2 (.inr h)) (by decide)) c))⟩,rfl⟩)
                        case measure=>simp[intOf];omega
                  · obtain rfl:q=g.nr:=by omega
                    have B:=ua ad;obtain⟨C,bb⟩:=nm wr;subst wr;clear ad;go_wp2;go_loopw [8,10] (fun t j Z=>ucZ C g.nb (fun q=>M.Throws (g.lab q).bl (g.lab q).body m) (∃t,t<g.nr/\M.Throws (g.rule t).bl (g.rule t).body m) t j Z) (fun t j _=>g.nb-(intOf j).toNat)
                    case atStart=>exact⟨0,bt,Nat.zero_le _,rfl,rfl,rfl,B.trans ⟨fun h=>h.elim False.elim .inl,fun h=>h.elim .inr (fun ⟨_,h,_⟩=>absurd h (Nat.not_lt_zero _))⟩⟩
                    case round =>
                      obtain⟨q,bu,hq,rfl,rfl,an,al⟩:=hrel;subst an;by_cases Y:q<g.nb
                      · have hqn':(q:Int)<(g.nb:Int):=by omega
                        obtain⟨_,_,⟨S,T,d1,aa⟩⟩:=ax q Y;have R:=ua aa;have y:=ua al;have X:=(S2 q Y).body.1;clear aa al;cases bu with
                        |true =>
                          go_wp2;go_roundw
                          case rel=>exact⟨q+1,true,by omega,by go_num,rfl,rfl,xI (by rw[vz];exact (y.1 rfl).imp id .inl)⟩
                          case measure=>simp[intOf];omega
                        |false =>
                          by_cases z:M.Throws (g.lab q).bl (g.lab q).body m
                          · have c:Hid (M.Throws (g.lab q).bl (g.lab q).body m):=z
                            clear z;go_wp2_with (go_at_call 66;refine (vE Q S (g.lab q).bl T m (g.lab q).body _ R X).mono ?_;rintro e W ⟨⟨r,rfl,a⟩,l⟩;subst W;obtain rfl:r=true:=a.2 c;clear a);go_roundw
                            case rel=>first|exact⟨q+1,true,by omega,by go_num,rfl,rfl,xI (by rw[vz];exact .inr (.inr c))⟩|((repeat apply Exists.intro);exact⟨⟨q+1,true,by omega,by go_num,rfl,rfl,xI (by rw[vz];exact .inr (.inr c))⟩,rfl⟩)
                            case measure=>simp[intOf];omega
                          · have c:Hid (¬M.Throws (g.lab q).bl (g.lab q).body m):=z
                            clear z;go_wp2_with (go_at_call 66;refine (vE Q S (g.lab q).bl T m (g.lab q).body _ R X).mono ?_;rintro e W ⟨⟨r,rfl,a⟩,l⟩;subst W;obtain rfl:r=false:=by { cases r;rfl;exact absurd (a.1 rfl) c };clear a)
                            go_roundw
                            case rel=>first|exact⟨q+1,false,by omega,by go_num,rfl,rfl,uJ (by rw[vz];exact fun h=>h.elim (fun h=>absurd (y.2 (.inl h)) (by decide)) (fun h=>h.elim (fun h=>absurd (y.2 (.inr h)) (by decide)) c))⟩|((repeat apply Exists.intro);exact⟨⟨q+1,false,by omega,by go_num,rfl,rfl,uJ (by rw[vz];exact fun h=>h.elim (fun h=>absurd (y.2 (.inl h)) (by decide)) (fun h=>h.elim (fun h=>absurd (y.2 (.inr h)) (by decide)) c))⟩,rfl⟩)
                            case measure=>simp[intOf];omega
                      · obtain rfl:q=g.nb:=by omega
                        have y:Hid (bu=true↔unP g m):=al;clear al;cases bu with
                        |false =>
                          go_wp2;go_ret;exact⟨⟨false,rfl,uJ fun q=>absurd (y.2 (q.lt m f J)) (by decide)⟩,ud ab I⟩
                        |true =>
                          by_cases O:(g.lab m).bl=0
                          · have ah:Hid ((g.lab m).bl=0):=O
                            have fz:(((g.lab m).bl:Int) != 0)=false:=by simp[O]
                            clear O;go_wp2;go_roundw
                            case rel=>exact⟨m+1,by omega,yL (by have:=af.out;have:=ai.out;omega),by go_num,ud ao.out I.out,vB HM.out ⟨G.out,aj.out,fun q=>absurd (J.out.symm.trans q) (by decide),fun _=>⟨y.out.1 rfl,ah.out⟩⟩⟩
                            case measure=>simp[intOf];omega
                          · have ah:Hid (¬(g.lab m).bl=0):=O
                            have fz:(((g.lab m).bl:Int) != 0)=true:=by simp[O]
                            clear O;go_wp2;go_ret;exact⟨⟨false,rfl,uJ fun q=>ah (q.lz m f J)⟩,ud ab I⟩
            · obtain⟨p,hp⟩:∃p,m=p+1:=⟨m-1,by omega⟩
              have HP:=ua hp;have em:(m:Int)-1=(p:Int):=by omega
              have bg:0<m:=by omega
              have hmp':(0:Int)<(m:Int):=by omega
              have a1:p<g.nb:=by omega
              have hpl':(p:Int)<(g.nb:Int):=by omega
              clear hz hp;obtain⟨⟨ae,ag,d0,aq⟩,_,_⟩:=au p a1;have hI':∀o d,Ints Q .u8 ((wr.alloc o).drewN d) ae (g.lab p).nl (g.lab p).name:=fun o d=>aq.later (below_drewN (uf wr o) d)
              by_cases el:M.LessName (g.lab (m-1)) (g.lab m)
              · have aj:Hid (0<m->M.LessName (g.lab (m-1)) (g.lab m)):=fun _=>el
                have HC:Hid (∀o d,Calls Tryz.prog 61 #[.slice ae (g.lab p).nl ag,.slice s (g.lab m).nl v] ((wr.alloc o).drewN d) fun e w'=>e=.returned (.bool true)/\w'=(wr.alloc o).drewN d):=fun o d =>
                  (ubb Q ae s (g.lab p).nl ag (g.lab m).nl v (g.lab p).name (g.lab m).name _ (hI' o d) (P o d) (S2 p a1).byt u.byt).mono (fun e W h=>by
                    obtain⟨⟨r,rfl,a⟩,rfl⟩:=h;rw[show m-1=p by have:=HP.out;omega]at el
                    rw[a.2 el];exact⟨rfl,rfl⟩)
                clear aq hI' el;cases N:(g.lab m).has with
                |true =>
                  have J:Hid ((g.lab m).has=true):=N;rw[N]at c1;clear N;go_wp2_with fail;go_quiet (first|(go_at_call 64;exact Calls.quiet_of_same (ac _ _))|(go_at_call 61;exact Calls.quiet_of_same (HC _ _)))
                  by_cases H:M.BodyOK g.nr g.nb (g.lab m).bl (g.lab m).body
                  · have x:Hid (M.BodyOK g.nr g.nb (g.lab m).bl (g.lab m).body):=H
                    clear H;go_wp2_with (go_at_call 65;refine (yF Q ba g.nr g.nb (g.lab m).bl bc (g.lab m).body _ (HO _ _) h1 h2 u.body).mono ?_;rintro e W ⟨⟨r,rfl,a⟩,l⟩;obtain rfl:r=true:=a.2 x;have HW:Hid _:=l;clear a l);go_roundw
                    case rel=>exact⟨m+1,by omega,yL (by have:=af.out;have:=ai.out;omega),by go_num,ud ao.out (ud (below_drewN (uf wr _) _) HW.out),vB HM.out ⟨G.out,aj.out,fun _=>x.out,fun q=>absurd (J.out.symm.trans q) (by decide)⟩⟩
                    case measure=>simp[intOf];omega
                  · have x:Hid (¬M.BodyOK g.nr g.nb (g.lab m).bl (g.lab m).body):=H
                    clear H;go_wp2_with (go_at_call 65;refine (yF Q ba g.nr g.nb (g.lab m).bl bc (g.lab m).body _ (HO _ _) h1 h2 u.body).mono ?_;rintro e W ⟨⟨r,rfl,a⟩,l⟩;obtain rfl:r=false:=by { cases r;rfl;exact absurd (a.1 rfl) x };have HW:Hid _:=l;clear a l)
                    go_ret;exact⟨⟨false,rfl,uJ fun q=>x (q.lb m f J)⟩,ud ab (ud (below_drewN (uf wr _) _) HW)⟩
                |false =>
                  have J:Hid ((g.lab m).has=false):=N;rw[N]at c1;clear N;go_wp2_with fail;go_quiet (first|(go_at_call 64;exact Calls.quiet_of_same (ac _ _))|(go_at_call 61;exact Calls.quiet_of_same (HC _ _)))
                  obtain⟨C,U⟩:=nm ((wr.alloc (Obj.cells #[Value.slice s (g.lab m).nl v,Value.bool false,Value.slice ba (g.lab m).bl bc] 73)).drewN nq);have L:=U▸below_drewN (uf wr _) _;have v3:C.cell? ⟨wr.heap.size,1,none⟩=some (.bool false):=by rw[<-U];simp
                  have v2:C.cell? ⟨wr.heap.size,2,none⟩=some (.slice ba (g.lab m).bl bc):=by rw[<-U];simp
                  have v0:=uc e0 L;have v1:=uc e1 L;rw[U];have I:Hid (Below wr.heap.size wr C):=L;have az:=ua (av.later L);have ax:Hid (∀i,i<g.nb->LabC Q C b (off+i*3) (g.lab i)):=fun i hi=>(au i hi).later L
                  clear U L c0 c1 c2 e0 e1 P HO ac au av;go_wp2;go_loopw [8,9] (fun t j Z=>ucZ C g.nr (fun q=>M.Throws (g.rule q).bl (g.rule q).body m) False t j Z) (fun t j _=>g.nr-(intOf j).toNat)
                  case atStart=>exact⟨0,false,Nat.zero_le _,rfl,rfl,rfl,uJ (fun q=>q.elim id (fun ⟨_,h,_⟩=>absurd h (Nat.not_lt_zero _)))⟩
                  case round =>
                    obtain⟨q,bt,hq,rfl,rfl,an,ad⟩:=hrel;subst an;by_cases Y:q<g.nr
                    · have hqn':(q:Int)<(g.nr:Int):=by omega
                      have D:=az;rcases D with h0 | ⟨rb,ro,rfl,_,D⟩
                      · omega
                      obtain⟨_,⟨S,T,d1,aa⟩⟩:=D q Y;have R:=ua aa;have B:=ua ad;have X:=(S1 q Y).body.1;clear D aa ad;cases bt with
                      |true =>
                        go_wp2;go_roundw
                        case rel=>exact⟨q+1,true,by omega,by go_num,rfl,rfl,xI (by rw[vz];exact (B.1 rfl).imp id .inl)⟩
                        case measure=>simp[intOf];omega
                      |false =>
                        by_cases z:M.Throws (g.rule q).bl (g.rule q).body m
                        · have c:Hid (M.Throws (g.rule q).bl (g.rule q).body m):=z
                          clear z;go_wp2_with (go_at_call 66;refine (vE Q S (g.rule q).bl T m (g.rule q).body _ R X).mono ?_;rintro e W ⟨⟨r,rfl,a⟩,l⟩;subst W;obtain rfl:r=true:=a.2 c;clear a);go_roundw
                          case rel=>first|exact⟨q+1,true,by omega,by go_num,rfl,rfl,xI (by rw[vz];exact .inr (.inr c))⟩|((repeat apply Exists.intro);exact⟨⟨q+1,true,by omega,by go_num,rfl,rfl,xI (by rw[vz];exact .inr (.inr c))⟩,rfl⟩)
                          case measure=>simp[intOf];omega
                        · have c:Hid (¬M.Throws (g.rule q).bl (g.rule q).body m):=z
                          clear z;go_wp2_with (go_at_call 66;refine (vE Q S (g.rule q).bl T m (g.rule q).body _ R X).mono ?_;rintro e W ⟨⟨r,rfl,a⟩,l⟩;subst W;obtain rfl:r=false:=by { cases r;rfl;exact absurd (a.1 rfl) c };clear a)
                          go_roundw
                          case rel=>first|exact⟨q+1,false,by omega,by go_num,rfl,rfl,uJ (by rw[vz];exact fun h=>h.elim (fun h=>absurd (B.2 (.inl h)) (by decide)) (fun h=>h.elim (fun h=>absurd (B.2 (.inr h)) (by decide)) c))⟩|((repeat apply Exists.intro);exact⟨⟨q+1,false,by omega,by go_num,rfl,rfl,uJ (by rw[vz];exact fun h=>h.elim (fun h=>absurd (B.2 (.inl h)) (by decide)) (fun h=>h.elim (fun h=>absurd (B.2 (.inr h)) (by decide)) c))⟩,rfl⟩)
                          case measure=>simp[intOf];omega
                    · obtain rfl:q=g.nr:=by omega
                      have B:=ua ad;obtain⟨C,bb⟩:=nm wr;subst wr;clear ad;go_wp2;go_loopw [8,10] (fun t j Z=>ucZ C g.nb (fun q=>M.Throws (g.lab q).bl (g.lab q).body m) (∃t,t<g.nr/\M.Throws (g.rule t).bl (g.rule t).body m) t j Z) (fun t j _=>g.nb-(intOf j).toNat)
                      case atStart=>exact⟨0,bt,Nat.zero_le _,rfl,rfl,rfl,B.trans ⟨fun h=>h.elim False.elim .inl,fun h=>h.elim .inr (fun ⟨_,h,_⟩=>absurd h (Nat.not_lt_zero _))⟩⟩
                      case round =>
                        obtain⟨q,bu,hq,rfl,rfl,an,al⟩:=hrel;subst an;by_cases Y:q<g.nb
                        · have hqn':(q:Int)<(g.nb:Int):=by omega
                          obtain⟨_,_,⟨S,T,d1,aa⟩⟩:=ax q Y;have R:=ua aa;have y:=ua al;have X:=(S2 q Y).body.1;cases bu with
                          |true =>
                            go_wp2;go_roundw
                            case rel=>exact⟨q+1,true,by omega,by go_num,rfl,rfl,xI (by rw[vz];exact (y.1 rfl).imp id .inl)⟩
                            case measure=>simp[intOf];omega
                          |false =>
                            by_cases z:M.Throws (g.lab q).bl (g.lab q).body m
                            · have c:Hid (M.Throws (g.lab q).bl (g.lab q).body m):=z
                              go_wp2_with (go_at_call 66;refine (vE Q S (g.lab q).bl T m (g.lab q).body _ R X).mono ?_;rintro e W ⟨⟨r,rfl,a⟩,l⟩;subst W;obtain rfl:r=true:=a.2 c;clear a);go_roundw
                              case rel=>first|exact⟨q+1,true,by omega,by go_num,rfl,rfl,xI (by rw[vz];exact .inr (.inr c))⟩|((repeat apply Exists.intro);exact⟨⟨q+1,true,by omega,by go_num,rfl,rfl,xI (by rw[vz];exact .inr (.inr c))⟩,rfl⟩)
                              case measure=>simp[intOf];omega
                            · have c:Hid (¬M.Throws (g.lab q).bl (g.lab q).body m):=z
                              go_wp2_with (go_at_call 66;refine (vE Q S (g.lab q).bl T m (g.lab q).body _ R X).mono ?_;rintro e W ⟨⟨r,rfl,a⟩,l⟩;subst W;obtain rfl:r=false:=by { cases r;rfl;exact absurd (a.1 rfl) c };clear a)
                              go_roundw
                              case rel=>first|exact⟨q+1,false,by omega,by go_num,rfl,rfl,uJ (by rw[vz];exact fun h=>h.elim (fun h=>absurd (y.2 (.inl h)) (by decide)) (fun h=>h.elim (fun h=>absurd (y.2 (.inr h)) (by decide)) c))⟩|((repeat apply Exists.intro);exact⟨⟨q+1,false,by omega,by go_num,rfl,rfl,uJ (by rw[vz];exact fun h=>h.elim (fun h=>absurd (y.2 (.inl h)) (by decide)) (fun h=>h.elim (fun h=>absurd (y.2 (.inr h)) (by decide)) c))⟩,rfl⟩)
                              case measure=>simp[intOf];omega
                        · obtain rfl:q=g.nb:=by omega
                          have y:=ua al;cases bu with
                          |false =>
                            go_wp2;go_ret;exact⟨⟨false,rfl,uJ fun q=>absurd (y.2 (q.lt m f J)) (by decide)⟩,ud ab I⟩
                          |true =>
                            by_cases O:(g.lab m).bl=0
                            · have ah:Hid ((g.lab m).bl=0):=O
                              have fz:(((g.lab m).bl:Int) != 0)=false:=by simp[O]
                              go_wp2;go_roundw
                              case rel=>exact⟨m+1,by omega,yL (by have:=af.out;have:=ai.out;omega),by go_num,ud ao.out I.out,vB HM.out ⟨G.out,aj.out,fun q=>absurd (J.out.symm.trans q) (by decide),fun _=>⟨y.out.1 rfl,ah⟩⟩⟩
                              case measure=>simp[intOf];omega
                            · have ah:Hid (¬(g.lab m).bl=0):=O
                              have fz:(((g.lab m).bl:Int) != 0)=true:=by simp[O]
                              clear O;go_wp2;go_ret;exact⟨⟨false,rfl,uJ fun q=>ah (q.lz m f J)⟩,ud ab I⟩
              · have aj:Hid (¬M.LessName (g.lab (m-1)) (g.lab m)):=el
                have HC:Hid (∀o d,Calls Tryz.prog 61 #[.slice ae (g.lab p).nl ag,.slice s (g.lab m).nl v] ((wr.alloc o).drewN d) fun e w'=>e=.returned (.bool false)/\w'=(wr.alloc o).drewN d):=fun o d =>
                  (ubb Q ae s (g.lab p).nl ag (g.lab m).nl v (g.lab p).name (g.lab m).name _ (hI' o d) (P o d) (S2 p a1).byt u.byt).mono (fun e W h=>by
                    obtain⟨⟨r,rfl,a⟩,rfl⟩:=h;rw[show m-1=p by have:=HP.out;omega]at el
                    obtain rfl:r=false:=by { cases r;rfl;exact absurd (a.1 rfl) el }
                    exact⟨rfl,rfl⟩)
                clear aq hI' el;go_wp2_with fail;go_quiet (first|(go_at_call 64;exact Calls.quiet_of_same (ac _ _))|(go_at_call 61;exact Calls.quiet_of_same (HC _ _)))
                go_wp2;go_ret;exact⟨⟨false,rfl,uJ fun q=>aj (q.la m f bg)⟩,ud ab (below_drewN (uf wr _) _)⟩
          · have G:Hid (¬M.NameOK (g.lab m).nl (g.lab m).name):=en
            have ac:Hid (∀o d,Calls Tryz.prog 64 #[.slice s (g.lab m).nl v] ((wr.alloc o).drewN d) fun e w'=>e=.returned (.bool false)/\w'=(wr.alloc o).drewN d):=fun o d =>
              (kQ Q s (g.lab m).nl v (g.lab m).name _ (P o d) u.byt a7).mono (fun e W h=>by
                obtain⟨⟨r,rfl,a⟩,rfl⟩:=h;obtain rfl:r=false:=by { cases r;rfl;exact absurd (a.1 rfl) G }
                exact⟨rfl,rfl⟩)
            go_wp2_with fail;go_quiet (first|(go_at_call 64;exact Calls.quiet_of_same (ac _ _)))
            go_wp2;go_ret;exact⟨⟨false,rfl,uJ fun q=>G (q.ln m f)⟩,ud ab (below_drewN (uf wr _) _)⟩
        · obtain rfl:m=g.nb:=by omega
          go_wp2;go_ret;refine⟨⟨_,rfl,?_⟩,ab⟩;rw[ui4];simp only[decide_eq_true_eq];constructor
          · intro q
            exact⟨by omega,by omega,by omega,HA,HM,by rw[ay.out];omega⟩
          · rintro⟨_,_,_,_,_,q⟩
            rw[ay.out]at q;omega
end Go.Proofs.YtpghlcdkfldlpaaGreat
