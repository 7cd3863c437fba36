import Derived.Test.YtpghlcdkfldlpaaGreatT17
set_option linter.unusedVariables false
set_option linter.unusedSimpArgs false
set_option maxHeartbeats 40000000
set_option maxRecDepth 100000
namespace Go.Proofs.YtpghlcdkfldlpaaGreat
open Go.RowKit
open M (OpD ue Gr)
theorem uef g:∀m,xW g (g.nr+m)=M.sum (fun i=>(g.rule i).bl) g.nr+M.sum (fun i=>(g.lab i).bl) m
  |0=>by
    have:∀n,n<=g.nr->xW g n=M.sum (fun i=>(g.rule i).bl) n:=by
      intro n b;induction n with
      |zero=>rfl
      |succ n a=>rw[uau,a (by omega),M.sum,yd g (by omega)]
    rw[Nat.add_zero,this _ (Nat.le_refl _)];rfl
  |m+1=>by
    have:=uef g m;rw[<-Nat.add_assoc,uau,this,xE,M.sum,Nat.add_assoc]
theorem ueg g:xW g (g.nr+g.nb)=M.ops g:=uef g g.nb
theorem unT{g}{P:ue->Prop}:(∀p,p<g.nr+g.nb->P (nd g p))↔(∀i,i<g.nr->P (g.rule i))/\∀i,i<g.nb->P (g.lab i):=by
  constructor
  · intro h
    exact⟨fun i a=>yd g a▸h i (by omega),fun i a=>xE g i▸h (g.nr+i) (by omega)⟩
  · rintro⟨b,c⟩ p d
    unfold nd;split
    · exact b p (by omega)
    · exact c _ (by omega)
theorem uhM g:¬uiN g↔g.nr<=100/\g.nb<=100/\M.ops g<=2000/\(∀i,i<g.nr->(g.rule i).nl<=32)/\∀i,i<g.nb->(g.lab i).nl<=32:=by
  have j:=unT (g:=g) (P:=fun d=>d.nl<=32)
  unfold uiN;constructor
  · intro h
    have c:=Nat.le_of_not_lt fun q=>h (.inl q)
    have f:g.nb<=100:=Nat.le_of_not_lt fun q=>h (.inr (.inl q))
    have b:∀p,p<g.nr+g.nb->¬(2000<xW g (p+1)\/32<(nd g p).nl):=fun p a q=>h (.inr (.inr ⟨p,a,q⟩))
    refine⟨c,f,?_,j.1 fun p a=>Nat.le_of_not_lt fun q=>b p a (.inr q)⟩
    rw[<-ueg];by_cases e:g.nr+g.nb=0
    · rw[e];exact Nat.zero_le _
    · have:=b (g.nr+g.nb-1) (by omega)
      rw[show g.nr+g.nb-1+1=g.nr+g.nb by omega]at this
      omega
  · rintro⟨c,f,b,k⟩ (q | q | ⟨p,a,q | q⟩)
    · omega
    · omega
    · have:=M.sum_le (fun i=>(nd g i).bl) (show p+1<=g.nr+g.nb by omega)
      have e:M.sum (fun i=>(nd g i).bl) (g.nr+g.nb)=M.ops g:=ueg g
      have l:M.sum (fun i=>(nd g i).bl) (p+1)=xW g (p+1):=rfl
      omega
    · have:=j.2 k p a
      omega
theorem ufj g i:yS g (g.nr+g.nb) i↔(∃j,j<g.nr/\M.Throws (g.rule j).bl (g.rule j).body i)\/∃j,j<g.nb/\M.Throws (g.lab j).bl (g.lab j).body i:=by
  constructor
  · rintro⟨q,b,h⟩
    by_cases e:q<g.nr
    · rw[yd g e]at h
      exact .inl ⟨q,e,h⟩
    · obtain⟨m,rfl⟩:∃m,q=g.nr+m:=⟨q-g.nr,by omega⟩
      rw[xE]at h;exact .inr ⟨m,by omega,h⟩
  · rintro (⟨j,a,h⟩|⟨j,a,h⟩)
    · exact⟨j,by omega,by rw[yd g a];exact h⟩
    · exact⟨g.nr+j,by omega,by rw[xE];exact h⟩
theorem jY g:M.Valid g↔0<g.nr/\¬uiN g/\ubB g/\jB g/\unb g:=by
  rw[uhM];constructor
  · intro h
    refine⟨h.r1,⟨h.r2,h.l2,h.ol,fun i a=>(h.rn i a).1,fun i a=>(h.ln i a).1⟩,⟨fun i a=>⟨(h.rn i a).2,h.ru i a⟩,fun i a=>⟨(h.ln i a).2,h.la i a⟩⟩,
      ⟨h.rb,fun i a=>⟨h.lb i a,h.lz i a⟩⟩,fun i a b=>(ufj g i).2 (h.lt i a b)⟩
  · rintro⟨f,⟨k,l,m,n,o⟩,⟨d,e⟩,⟨p,c⟩,j⟩
    exact { r1:=f,r2:=k,l2:=l,rn:=fun i a=>⟨n i a,(d i a).1⟩,ru:=fun i a=>(d i a).2,ln:=fun i a=>⟨o i a,(e i a).1⟩,la:=fun i a=>(e i a).2,
            rb:=p,lb:=fun i a=>(c i a).1,lz:=fun i a=>(c i a).2,lt:=fun i a b=>(ufj g i).1 (j i a b),ol:=m }
theorem upz g(h:jB g):uiJ g:=by
  have k:∀p,p<g.nr+g.nb->∀i,i<(nd g p).bl->M.ElemOK g.nr g.nb ((nd g p).body i):=by
    refine unT (P:=fun d=>∀i,i<d.bl->M.ElemOK g.nr g.nb (d.body i)) |>.2 ⟨fun i a=>(h.1 i a).1,fun i a=>?_⟩
    cases e:(g.lab i).has with
    |true=>exact ((h.2 i a).1 e).1
    |false=>intro j m;have:=(h.2 i a).2 e;omega
  intro p f i a b;have c:=k p f i a;generalize (nd g p).body i=d at c b ⊢;obtain⟨kd,n,S,l⟩:=d;simp only at b;subst b;have:=(ueM _ _ _ _ _).1 c;exact⟨this.1,this.2.1⟩
theorem Flat.later{w W d la g rb e lb lo}{b ba:Nat->Option Addr}{c bc}(h:Flat w d la g rb e lb lo b ba c bc)(k:Below w.heap.size w W):Flat W d la g rb e lb lo b ba c bc :=
  ⟨h.ra,h.la,fun i a=>uc (h.r0 i a) k,fun i a=>uc (h.r1 i a) k,fun i a=>uc (h.l0 i a) k,fun i a=>uc (h.l1 i a) k,fun i a=>uc (h.l2 i a) k⟩
theorem RulesA.at'{Q w a n R}(h:RulesA Q w a n R):∃b off,(0<n->a=some ⟨b,off,none⟩)/\∀i,i<n->RuleC Q w b (off+i*2) (R i):=by
  rcases h with h | ⟨b,off,e,_,h⟩
  · exact⟨0,0,fun q=>by omega,fun i c=>by omega⟩
  · exact⟨b,off,fun _=>e,h⟩
theorem LabsA.at'{Q w a n R}(h:LabsA Q w a n R):∃b off,(0<n->a=some ⟨b,off,none⟩)/\∀i,i<n->LabC Q w b (off+i*3) (R i):=by
  rcases h with h | ⟨b,off,e,_,h⟩
  · exact⟨0,0,fun q=>by omega,fun i c=>by omega⟩
  · exact⟨b,off,fun _=>e,h⟩
theorem ukb{Q w v la g}(h:GramA Q w v la g):∃rb j lb lo D ba E bc,Flat w v la g rb j lb lo D ba E bc/\∀p,p<g.nr+g.nb->OpsA Q w (ba p) (nd g p).bl (nd g p).body:=by
  obtain⟨rb,j,z,B⟩:=h.rules.at';obtain⟨lb,lo,y,t⟩:=h.labs.at';obtain⟨f,d⟩:=Deep.choose_lt (α:=(Option Addr×Nat)×(Option Addr×Nat)) (n:=g.nr+g.nb) (p:=fun p x =>
      (p<g.nr->w.cell? ⟨rb,j+p*2,none⟩=some (.slice x.1.1 (nd g p).nl x.1.2)/\w.cell? ⟨rb,j+p*2+1,none⟩=some (.slice x.2.1 (nd g p).bl x.2.2)) /\
      (∀m,p=g.nr+m->w.cell? ⟨lb,lo+m*3,none⟩=some (.slice x.1.1 (nd g p).nl x.1.2)/\w.cell? ⟨lb,lo+m*3+2,none⟩=some (.slice x.2.1 (nd g p).bl x.2.2)) /\
      OpsA Q w x.2.1 (nd g p).bl (nd g p).body) (fun p u=>by
    by_cases e:p<g.nr
    · obtain⟨⟨a,c,o,_⟩,⟨k,l,r,s⟩⟩:=B p e
      rw[yd g e];exact⟨⟨(a,c),(k,l)⟩,fun _=>⟨o,r⟩,fun m A=>by omega,s⟩
    · obtain⟨m,rfl⟩:∃m,p=g.nr+m:=⟨p-g.nr,by omega⟩
      obtain⟨⟨a,c,o,_⟩,_,⟨k,l,r,s⟩⟩:=t m (by omega)
      rw[xE];refine⟨⟨(a,c),(k,l)⟩,fun q=>by omega,fun C A=>?_,s⟩
      obtain rfl:m=C:=by omega
      exact⟨o,r⟩)
  refine⟨rb,j,lb,lo,fun p=>(f p).1.1,fun p=>(f p).2.1,fun p=>(f p).1.2,fun p=>(f p).2.2,⟨z,y,fun i b=>((d i (by omega)).1 b).1,fun i b=>((d i (by omega)).1 b).2,
    fun i b=>((d (g.nr+i) (by omega)).2.1 i rfl).1,fun i b=>(t i b).has,fun i b=>((d (g.nr+i) (by omega)).2.1 i rfl).2⟩,fun p u=>(d p u).2.2⟩
theorem xu Q a la b lc g w(d:GramA Q w a la g)(f:vP g) :
    Calls Tryz.prog 72 #[.agg #[.slice a g.nr b,.slice la g.nb lc]] w (xS (uiN g) w):=by
  obtain⟨rb,j,lb,lo,h,ba,i,bc,c,_⟩:=ukb d;exact callsIn_wide.1 (ueq a la b lc g rb j lb lo h ba i bc w f (fun W e=>c.later e))
theorem ucN Q a la b lc g w(e:GramA Q w a la g)(i:vP g)(c:uiJ g)(j:xW g (g.nr+g.nb)<=2000) :
    Calls Tryz.prog 75 #[.agg #[.slice a g.nr b,.slice la g.nb lc]] w (xS (unb g) w):=by
  obtain⟨rb,m,lb,lo,k,ba,l,bc,d,f⟩:=ukb e;exact callsIn_wide.1 (udM Q a la b lc g rb m lb lo k ba l bc w i (fun W h=>d.later h) f c j)
theorem ucj Q c la d lc g w(F:GramA Q w c la g)(s:vP g) :
    Calls Tryz.prog 32 #[.agg #[.slice c g.nr d,.slice la g.nb lc]] w (xS (M.Valid g) w):=by
  have h:=ua F;have J:=s.nr;have L:=s.nb;have i:=ua s;have E:∀W,Below (w.alloc (.cells #[.slice c g.nr d,.slice la g.nb lc] 28)).heap.size (w.alloc (.cells #[.slice c g.nr d,.slice la g.nb lc] 28)) W->W.cell? ⟨w.heap.size,0,none⟩=some (.slice c g.nr d)/\W.cell? ⟨w.heap.size,1,none⟩=some (.slice la g.nb lc):=fun W x =>
    ⟨uc (kF w _ _ 28).1 x,uc (kF w _ _ 28).2 x⟩
  have l:=ua E;by_cases I:g.nr=0
  · have G:¬(0:Int)<(g.nr:Int):=by omega
    go_enter Tryz.func32,Tryz.ntmps32;go_wp2;go_ret;exact⟨⟨false,rfl,uJ fun q=>by have:=q.r1;omega⟩,uf w _⟩
  have G:(0:Int)<(g.nr:Int):=by omega
  by_cases u:uiN g
  · have j:Hid (uiN g):=u
    go_enter Tryz.func32,Tryz.ntmps32;go_wp2_with (go_at_call 72;refine (xu Q c la d lc g _ (h.later (uf w _)) i).mono ?_;rintro e W ⟨⟨r,rfl,b⟩,a⟩;obtain rfl:r=true:=b.2 j;have f:Hid _:=a;clear b a);go_ret;exact⟨⟨false,rfl,uJ fun q=>((jY g).1 q).2.1 j⟩,ud (uf w _) f⟩
  have j:=ua u;by_cases v:ubB g
  · have m:Hid (ubB g):=v
    by_cases p:jB g
    · have n:Hid (jB g):=p
      have A:=ua (upz g p);have B:Hid (xW g (g.nr+g.nb)<=2000):=by show _<=_;rw[ueg];exact ((uhM g).1 j).2.2.1
      go_enter Tryz.func32,Tryz.ntmps32;go_wp2_with (first|(go_at_call 72;refine (xu Q c la d lc g _ (h.later (uf w _)) i).mono ?_;rintro e W ⟨⟨r,rfl,b⟩,a⟩;obtain rfl:r=false:=by { cases r;rfl;exact absurd (b.1 rfl) j };obtain⟨y,z⟩:=l W a;have f:Hid _:=a;clear b a)|(go_at_call 73;refine (kR Q c la d lc g _ (h.later (ud (uf w _) f)) i).mono ?_;rintro e W2 ⟨⟨r,rfl,b⟩,a⟩;obtain rfl:r=true:=b.2 m;obtain⟨H,y1⟩:=l W2 (ud f a);have k:Hid _:=ud f a;clear b a)|(go_at_call 74;refine (qy Q c la d lc g _ (h.later (ud (uf w _) k)) i).mono ?_;rintro e t ⟨⟨r,rfl,b⟩,a⟩;obtain rfl:r=true:=b.2 n;obtain⟨N,O⟩:=l t (ud k a);have o:Hid _:=ud k a;clear b a)|(go_at_call 75;refine (ucN Q c la d lc g _ (h.later (ud (uf w _) o)) i A B).mono ?_;rintro e W4 ⟨⟨r,rfl,b⟩,a⟩;have C:Hid _:=b;have D:Hid _:=ud o a;clear b a))
      go_ret;exact⟨⟨_,rfl,C.trans ⟨fun q=>(jY g).2 ⟨by omega,j,m,n,q⟩,fun q=>((jY g).1 q).2.2.2.2⟩⟩,ud (uf w _) D⟩
    · have n:Hid (¬jB g):=p
      go_enter Tryz.func32,Tryz.ntmps32;go_wp2_with (first|(go_at_call 72;refine (xu Q c la d lc g _ (h.later (uf w _)) i).mono ?_;rintro e W ⟨⟨r,rfl,b⟩,a⟩;obtain rfl:r=false:=by { cases r;rfl;exact absurd (b.1 rfl) j };obtain⟨y,z⟩:=l W a;have f:Hid _:=a;clear b a)|(go_at_call 73;refine (kR Q c la d lc g _ (h.later (ud (uf w _) f)) i).mono ?_;rintro e W2 ⟨⟨r,rfl,b⟩,a⟩;obtain rfl:r=true:=b.2 m;obtain⟨H,y1⟩:=l W2 (ud f a);have k:Hid _:=ud f a;clear b a)|(go_at_call 74;refine (qy Q c la d lc g _ (h.later (ud (uf w _) k)) i).mono ?_;rintro e t ⟨⟨r,rfl,b⟩,a⟩;obtain rfl:r=false:=by { cases r;rfl;exact absurd (b.1 rfl) n };have o:Hid _:=ud k a;clear b a))
      go_ret;exact⟨⟨false,rfl,uJ fun q=>n ((jY g).1 q).2.2.2.1⟩,ud (uf w _) o⟩
  · have m:Hid (¬ubB g):=v
    go_enter Tryz.func32,Tryz.ntmps32;go_wp2_with (first|(go_at_call 72;refine (xu Q c la d lc g _ (h.later (uf w _)) i).mono ?_;rintro e W ⟨⟨r,rfl,b⟩,a⟩;obtain rfl:r=false:=by { cases r;rfl;exact absurd (b.1 rfl) j };obtain⟨y,z⟩:=l W a;have f:Hid _:=a;clear b a)|(go_at_call 73;refine (kR Q c la d lc g _ (h.later (ud (uf w _) f)) i).mono ?_;rintro e W2 ⟨⟨r,rfl,b⟩,a⟩;obtain rfl:r=false:=by { cases r;rfl;exact absurd (b.1 rfl) m };have k:Hid _:=ud f a;clear b a))
    go_ret;exact⟨⟨false,rfl,uJ fun q=>m ((jY g).1 q).2.2.1⟩,ud (uf w _) k⟩
end Go.Proofs.YtpghlcdkfldlpaaGreat
