import Derived.Test.YtimfigongapdnaaGreatT30
set_option linter.unusedVariables false
set_option linter.unusedSimpArgs false
set_option maxHeartbeats 40000000
set_option maxRecDepth 100000
namespace Go.Proofs.YtimfigongapdnaaGreat
open Go.RowKit
open M (OpD ug Gr)
theorem urk Q i la j lc nr h w:BPc 27 Q i la j lc nr h [] (uq 0 0) w:=by
 intro a c w' r p q;show Calls Tryz.prog 27 #[.slice a 0 c,_,_] w' _;go_enter Tryz.func27,Tryz.ntmps27;go_wp2;go_loopw [7,8,9] (λk l m wr=>k=.int .i64 (-1)/\l=.int .i64 0/\m=.int .i64 0/\w'=wr) (λ_ _ _ _=>0)
 case atStart=>exact⟨rfl,rfl,rfl,rfl⟩
 case round =>
  obtain⟨rfl,rfl,rfl,rfl⟩:=hrel;go_wp2_with fail;refine(vQ 0 0 _).mono ?_;intro e W g;have b:Hid (Mk (uq 0 0) w' e W):=g;obtain⟨n,o,rfl,d,f⟩:=b.out;clear d f;go_wp2;go_ret;exact b.out
def uqG(t:Tok):Prop:=BytL t.nm/\t.nm.length<=400000/\t.set.length<=1048576
theorem ueU:∀(a:List (List Tok×List OpD)) (D:List OpD) (q:List Tok×List OpD),qo D (a++[q])=qo D a++q.2++[opd 4 0]
 |[],D,q=>rfl
 |p::r,D,q=>by rw[List.cons_append,qo,qo,ueU r]
theorem ukT a b:vg (a++b)=vg a++vg b:=by simp[vg]
theorem ucX b a:∀e:PE,0<(e.ops b a).length:=by
 intro e;cases e with
 |str t =>
  show 0<(ke t.nm).length;cases t.nm with
  |nil=>simp[ke,uq]
  |cons x r=>rw[ke,jP];simp[uF];omega
 |grp o e c=>exact ucX b a e
 |_=>simp[PE.ops,uq,uF,unD,uI]<;>omega
theorem SmD.sub{D a}(h:SmD D)(b:a.length<=D.length)(c:∀x∈a,x∈D):SmD a:=⟨Nat.le_trans b h.1,λx d=>h.2 x (c x d)⟩
theorem ukU Q i la j lc f d w(hN:Nms Q w i la f d):∀e:PE,(∀t∈e.tk,uqG t)->e.tk.length<=1048000->SmD (e.ops f d) ->
  (e.ok 2->BPc 64 Q i la j lc f.length d.length e.tk (e.ops f d) w)/\(e.ok 5->BPc 27 Q i la j lc f.length d.length e.tk (e.ops f d) w) /\
  (e.ok 3->∃p s,vg (p::s)=e.tk/\qo p.2 s=e.ops f d/\∀k,qp (λl D=>BPc 64 Q i la j lc f.length d.length l D w) k->kAt (vg k) 0≠42->kAt (vg k) 0≠63->qp (λl D=>BPc 64 Q i la j lc f.length d.length l D w) (p::s++k)):=by
 have Z:∀e:PE,e.tk.length<=1048000->SmD (e.ops f d)->e.ok 4->(∃p s,vg (p::s)=e.tk/\qo p.2 s=e.ops f d/\∀k,qp (λl D=>BPc 64 Q i la j lc f.length d.length l D w) k->kAt (vg k) 0≠42->kAt (vg k) 0≠63->qp (λl D=>BPc 64 Q i la j lc f.length d.length l D w) (p::s++k))->BPc 27 Q i la j lc f.length d.length e.tk (e.ops f d) w:=λe m g h4 ⟨p,s,P,R,S⟩=>by
  have A:=S [] trivial (by show(0:Int)≠42;omega) (by show(0:Int)≠63;omega);rw[List.append_nil]at A;have v:=unb e h4;rw[<-P]at v m ⊢;exact urp Q i la j lc f.length d.length p s _ w R g.1 v (by omega) A
 have aa:∀e:PE,e.ok 2->BPc 64 Q i la j lc f.length d.length e.tk (e.ops f d) w->∃p s,vg (p::s)=e.tk/\qo p.2 s=e.ops f d/\∀k,qp (λl D=>BPc 64 Q i la j lc f.length d.length l D w) k->kAt (vg k) 0≠42->kAt (vg k) 0≠63->qp (λl D=>BPc 64 Q i la j lc f.length d.length l D w) (p::s++k):=λe z v =>
  ⟨(e.tk,e.ops f d),[],by simp[vg],rfl,λk B T L=>⟨⟨uhn e z _ T L,ujR e z _,(vW e z []).2.2,ucX f d e,v⟩,B⟩⟩
 have part:∀e:PE,e.tk.length<=1048000->SmD (e.ops f d)->(∀l,e.ok l->l<=5->e.ok 2)->(e.ok 2->BPc 64 Q i la j lc f.length d.length e.tk (e.ops f d) w)->(e.ok 2->BPc 64 Q i la j lc f.length d.length e.tk (e.ops f d) w)/\(e.ok 5->BPc 27 Q i la j lc f.length d.length e.tk (e.ops f d) w) /\
  (e.ok 3->∃p s,vg (p::s)=e.tk/\qo p.2 s=e.ops f d/\∀k,qp (λl D=>BPc 64 Q i la j lc f.length d.length l D w) k->kAt (vg k) 0≠42->kAt (vg k) 0≠63->qp (λl D=>BPc 64 Q i la j lc f.length d.length l D w) (p::s++k)):=λe m g H v =>
  ⟨v,λU=>Z e m g (PE.ok_mono e (by omega) (H 5 U (by omega))) (aa e (H 5 U (by omega)) (v (H 5 U (by omega)))),λL=>aa e (H 3 L (by omega)) (v (H 3 L (by omega)))⟩
 intro e;induction e with
 |ref t=>exact λn m g=>part _ m g (λl h _=>h) (λh a c w' J E F=>url Q t a i la c j lc f d w' E (hN.later J.bel) h (n t (by simp[PE.tk])).1 F)
 |thr c t=>exact λn m g=>part _ m g (λl h _=>h) (λh a cc w' J E F=>uro Q c t a i la cc j lc f d w' E (hN.later J.bel) h.1 h.2 (n t (by simp[PE.tk])).1 F)
 |str t=>exact λn m g=>part _ m g (λl h _=>h) (λh=>urr Q i la j lc f.length d.length t w h (n t (by simp[PE.tk])).2.1 (n t (by simp[PE.tk])).1)
 |cls t=>exact λn m g=>part _ m g (λl h _=>h) (λh a c w' J E F=>urn Q t a i la c j lc f.length d.length w' E h (n t (by simp[PE.tk])).2.2 F)
 |dot t=>exact λn m g=>part _ m g (λl h _=>h) (λh a c w' J E F=>urm Q t a i la c j lc f.length d.length w' E h F)
 |grp o e c C =>
  intro n m g;have G:(PE.grp o e c).tk.length=e.tk.length+2:=by simp[PE.tk]
  refine part _ m g (λl h _=>h) (λh=>?_);have:=(C (λt q=>n t (by simp[PE.tk,q])) (by omega) g).2.1 h.2.2;exact urq Q i la j lc f.length d.length o c e.tk _ w h.1 h.2.1 (by omega) this
 |star e t C =>
  intro n m g;have G:(PE.star e t).tk.length=e.tk.length+1:=by simp[PE.tk]
  have hD':SmD (e.ops f d):=g.sub (by simp[PE.ops,unD]) (λx u=>by simp[PE.ops,unD,u]);refine part _ m g (λl h _=>⟨by omega,h.2⟩) (λh=>?_);have z:e.ok 2:=PE.ok_mono e (by omega) h.2.2;have:=(C (λt q=>n t (by simp[PE.tk,q])) (by omega) hD').1 z;have A:=qL e h.2.2 [];have y:=vW e z [];rw[List.append_nil]at A y;have I:¬(kAt e.tk 0=33\/kAt e.tk 0=38):=λq=>by
   cases B:e.tk with
   |nil=>rw[B]at y;simp at y
   |cons x r =>
    rw[B]at A q;have W:=A.1;rw[yP,if_pos (show x.kind=33\/x.kind=38 from q)]at W;omega
  exact upc Q i la j lc f.length d.length t e.tk _ w h.2.1 (by omega) y.2.2 (λq=>I (.inl q)) (λq=>I (.inr q)) hD' this
 |opt e t C =>
  intro n m g;have G:(PE.opt e t).tk.length=e.tk.length+1:=by simp[PE.tk]
  have hD':SmD (e.ops f d):=g.sub (by simp[PE.ops,uI]) (λx u=>by simp[PE.ops,uI,u]);refine part _ m g (λl h _=>⟨by omega,h.2⟩) (λh=>?_);have z:e.ok 2:=PE.ok_mono e (by omega) h.2.2;have:=(C (λt q=>n t (by simp[PE.tk,q])) (by omega) hD').1 z;have A:=qL e h.2.2 [];have y:=vW e z [];rw[List.append_nil]at A y;have I:¬(kAt e.tk 0=33\/kAt e.tk 0=38):=λq=>by
   cases B:e.tk with
   |nil=>rw[B]at y;simp at y
   |cons x r =>
    rw[B]at A q;have W:=A.1;rw[yP,if_pos (show x.kind=33\/x.kind=38 from q)]at W;omega
  exact uru Q i la j lc f.length d.length t e.tk _ w h.2.1 (by omega) y.2.2 (λq=>I (.inl q)) (λq=>I (.inr q)) hD' this
 |not t e C =>
  intro n m g;have G:(PE.not t e).tk.length=e.tk.length+1:=by simp[PE.tk]
  have hD':SmD (e.ops f d):=g.sub (by simp[PE.ops,unD]) (λx u=>by simp[PE.ops,unD,u]);refine part _ m g (λl h _=>⟨by omega,h.2⟩) (λh=>?_);have:=(C (λt q=>n t (by simp[PE.tk,q])) (by omega) hD').1 h.2.2;exact urs Q i la j lc f.length d.length t e.tk _ w h.2.1 (by omega) (vW e h.2.2 []).2.2 hD' this
 |amp t e C =>
  intro n m g;have G:(PE.amp t e).tk.length=e.tk.length+1:=by simp[PE.tk]
  have hD':SmD (e.ops f d):=g.sub (by simp[PE.ops,unD]) (λx u=>by simp[PE.ops,unD,u]);have ac:SmD (unD 7 (e.ops f d)):=g.sub (by simp[PE.ops,unD]) (λx u=>by simp[PE.ops,unD]at u ⊢;rcases u with h|h<;>simp[h]);refine part _ m g (λl h _=>⟨by omega,h.2⟩) (λh=>?_);have:=(C (λt q=>n t (by simp[PE.tk,q])) (by omega) hD').1 h.2.2;exact urt Q i la j lc f.length d.length t e.tk _ w h.2.1 (by omega) (vW e h.2.2 []).2.2 hD' ac this
 |emp=>exact λ_ _ _=>⟨λh=>absurd h (by show ¬(4<=2);omega),λ_=>urk Q i la j lc f.length d.length w,λh=>absurd h (by show ¬(4<=3);omega)⟩
 |seq a b X Y =>
  intro n m g;have G:(PE.seq a b).tk.length=a.tk.length+b.tk.length:=by simp[PE.tk]
  have N:SmD (a.ops f d):=g.sub (by simp[PE.ops,uI]) (λx u=>by simp[PE.ops,uI,u]);have O:SmD (b.ops f d):=g.sub (by simp[PE.ops,uI];omega) (λx u=>by simp[PE.ops,uI,u]);have ab:a.ok 3->b.ok 2->∃p s,vg (p::s)=(PE.seq a b).tk/\qo p.2 s=(PE.seq a b).ops f d/\∀k,qp (λl D=>BPc 64 Q i la j lc f.length d.length l D w) k->kAt (vg k) 0≠42->kAt (vg k) 0≠63->qp (λl D=>BPc 64 Q i la j lc f.length d.length l D w) (p::s++k):=λV v=>by
   obtain⟨p,s,P,R,S⟩:=(X (λt q=>n t (by simp[PE.tk,q])) (by omega) N).2.2 V;have ad:=(Y (λt q=>n t (by simp[PE.tk,q])) (by omega) O).1 v;refine⟨p,s++[(b.tk,b.ops f d)],?_,?_,λk B T z=>?_⟩
   ·rw[<-List.cons_append,ukT,P];simp[vg,PE.tk]
   ·rw[ueU,R];rfl
   have hq':qp (λl D=>BPc 64 Q i la j lc f.length d.length l D w) ((b.tk,b.ops f d)::k):=⟨⟨uhn b v _ T z,ujR b v _,(vW b v []).2.2,ucX f d b,ad⟩,B⟩;have y:=vW b v (vg k);have:=S _ hq' y.1 y.2.1;rw[<-List.cons_append,List.append_assoc];exact this
  exact⟨λh=>absurd h.1 (by omega),λh=>Z _ m g ⟨by omega,h.2⟩ (ab h.2.1 h.2.2),λh=>ab h.2.1 h.2.2⟩
 |alt a t b X Y =>
  intro n m g;have G:(PE.alt a t b).tk.length=a.tk.length+(b.tk.length+1):=by simp[PE.tk]
  have N:SmD (a.ops f d):=g.sub (by simp[PE.ops,uI]) (λx u=>by simp[PE.ops,uI,u]);have O:SmD (b.ops f d):=g.sub (by simp[PE.ops,uI];omega) (λx u=>by simp[PE.ops,uI,u]);refine⟨λh=>absurd h.1 (by omega),λh=>?_,λh=>absurd h.1 (by omega)⟩;have V:=(X (λt q=>n t (by simp[PE.tk,q])) (by omega) N).2.1 h.2.2.1;have v:=(Y (λt q=>n t (by simp[PE.tk,q])) (by omega) O).2.1 (PE.ok_mono b (by omega) h.2.2.2);have u:=N.1;have hy:=O.1;exact urj Q i la j lc f.length d.length t a.tk b.tk _ _ w (by omega) (upD a t b h) (ucX f d b) (by omega) V v
theorem PE.no59(e:PE):∀l,e.ok l->∀t∈e.tk,t.kind≠59:=by
  induction e with
  |ref t=>intro l h x d;have:=List.mem_singleton.1 d;subst this;have h:x.kind=110:=h;omega
  |thr c t=>intro l h x d;obtain⟨j,i⟩:=h;simp[PE.tk]at d;rcases d with rfl | rfl<;>omega
  |str t=>intro l h x d;have:=List.mem_singleton.1 d;subst this;have h:x.kind=34:=h;omega
  |cls t=>intro l h x d;have:=List.mem_singleton.1 d;subst this;have h:x.kind=91:=h;omega
  |dot t=>intro l h x d;have:=List.mem_singleton.1 d;subst this;have h:x.kind=46:=h;omega
  |grp o e c g=>intro l h x d;obtain⟨j,i,f⟩:=h;simp[PE.tk]at d;rcases d with rfl | d | rfl<;>first|omega | exact g 5 f x d
  |star e t g=>intro l h x d;obtain⟨j,i,f⟩:=h;simp[PE.tk]at d;rcases d with d | rfl<;>first|omega | exact g 0 f x d
  |opt e t g=>intro l h x d;obtain⟨j,i,f⟩:=h;simp[PE.tk]at d;rcases d with d | rfl<;>first|omega | exact g 0 f x d
  |not t e g=>intro l h x d;obtain⟨j,i,f⟩:=h;simp[PE.tk]at d;rcases d with rfl | d<;>first|omega | exact g 2 f x d
  |amp t e g=>intro l h x d;obtain⟨j,i,f⟩:=h;simp[PE.tk]at d;rcases d with rfl | d<;>first|omega | exact g 2 f x d
  |emp=>intro l h x d;cases d
  |seq a b k m=>intro l h x d;obtain⟨j,i,f⟩:=h;simp[PE.tk]at d;rcases d with d | d;exact k 3 i x d;exact m 2 f x d
  |alt a t b k m=>intro l h x d;obtain⟨j,i,f,n⟩:=h;simp[PE.tk]at d;rcases d with d | rfl | d;exact k 5 f x d;omega;exact m 4 n x d
def Rl.k(q:Rl):Nat:=if q.car.isSome then 1 else 0
theorem Rl.len(q:Rl):q.tk.length=q.k+2+q.body.tk.length+1:=by
  unfold Rl.tk Rl.k;cases q.car<;>simp<;>omega
theorem Rl.name_at(q:Rl):q.tk[q.k]? = some q.name:=by
  unfold Rl.tk Rl.k;cases q.car<;>simp
theorem Rl.body_at(q:Rl):(q.tk.drop (q.k+2)).take q.body.tk.length=q.body.tk:=by
  unfold Rl.tk Rl.k;cases q.car<;>simp
theorem Rl.last(q:Rl):q.tk[q.k+2+q.body.tk.length]? = some q.semi:=by
  unfold Rl.tk Rl.k;cases q.car
  · simp[show 2+q.body.tk.length=q.body.tk.length+1+1 by omega]
  · simp[show 1+2+q.body.tk.length=q.body.tk.length+1+1+1 by omega]
theorem Rl.inner{q:Rl}(h:q.ok){m:Nat}{x:Tok}(a:m<q.k+2+q.body.tk.length)(c:q.tk[m]? = some x):x.kind≠59:=by
  obtain⟨d,i,j,f,l⟩:=h;have e:q.tk=(q.car.toList++(q.name::q.eq::q.body.tk))++[q.semi]:=by simp[Rl.tk]
  rw[e,List.getElem?_append_left (by unfold Rl.k at a;cases g:q.car<;>simp[g]at a ⊢<;>omega)]at c
  have b:=List.mem_of_getElem? c;simp at b;rcases b with h | rfl | rfl | h
  · have:=d x h;omega
  · omega
  · omega
  · exact q.body.no59 5 f x h
def RlC(Q:Nat->Prop)(w:World)(b o:Nat)(q:Rl):Prop :=
  w.cell? ⟨b,o,none⟩=some (.bool q.car.isSome)/\TokC Q w b (o+1) q.name/\∃a c,w.cell? ⟨b,o+5,none⟩=some (.slice a q.body.tk.length c)/\TksA Q w a q.body.tk/\q.body.tk.length<=c
def RlsA(Q:Nat->Prop)(w:World)(a:Option Addr)(c:List Rl):Prop:=c = []\/∃b off,a=some ⟨b,off,none⟩/\∀i q,c[i]? = some q->RlC Q w b (off+i*6) q
theorem RlC.later{Q w w' b o q}(h:RlC Q w b o q)(t:Below w.heap.size w w'):RlC Q w' b o q:=by
  obtain⟨d,e,a,c,f,g,i⟩:=h;exact⟨ue d t,e.later t,a,c,ue f t,g.later t,i⟩
theorem RlsA.later{Q w w' a c}(h:RlsA Q w a c)(t:Below w.heap.size w w'):RlsA Q w' a c:=by
  rcases h with h | ⟨b,off,e,h⟩
  · exact .inl h
  · exact .inr ⟨b,off,e,fun i q d=>(h i q d).later t⟩
theorem RlsA.at{Q w a c}(h:RlsA Q w a c){i}(d:i<c.length):∃b off,a=some ⟨b,off,none⟩/\∀i q,c[i]? = some q->RlC Q w b (off+i*6) q:=by
  rcases h with h | h
  · subst h;simp at d
  · exact h
structure RC where
  q:Rl
  na:Option Addr
  nc:Nat
  sa:Option Addr
  sc:Nat
  ba:Option Addr
  bc:Nat
def rcv(x:RC):List Value:=[.bool x.q.car.isSome,.int .u8 x.q.name.kind,.int .i64 x.q.name.at_,.slice x.na x.q.name.nm.length x.nc,.slice x.sa x.q.name.set.length x.sc,.slice x.ba x.q.body.tk.length x.bc]
theorem ujV x:(rcv x).length=6:=rfl
theorem urK:(Tryz.prog.info? 64).map (fun i=>(i.zero,i.size,i.bytes))=some (some (.agg #[.bool false,.int .u8 0,.int .i64 0,.slice none 0 0,.slice none 0 0,.slice none 0 0]),6,96):=by kernel_rfl
theorem um6:vG 59 64 6 96:=⟨Tryz.underlying59,⟨_,urK,rfl⟩,by omega⟩
structure urL(Q:Nat->Prop)(w wr:World)(v:Value)(L:List RC)(P:Nat->Prop):Prop where
  own:OwnC P wr v 6 L.length (L.flatMap rcv)
  new:∀b,P b->New w wr b
  old:∀x∈L,Ints Q .u8 w x.na x.q.name.nm.length (lf x.q.name.nm)/\Ints Q .i64 w x.sa x.q.name.set.length (lf x.q.name.set)/\TksA Q w x.ba x.q.body.tk/\x.q.body.tk.length<=x.bc
  keep:Keep (fun _=>False) w wr
def RowR(Q:Nat->Prop)(w wr:World)(v:Value)(L:List RC):Prop:=∃P,urL Q w wr v L P
theorem RowR.nil{Q w wr}(h:Keep (fun _=>False) w wr):RowR Q w wr (.slice none 0 0) [] :=
  ⟨fun _=>False,.inl ⟨rfl,rfl,rfl⟩,fun _ q=>q.elim,(fun x a=>by cases a),h⟩
theorem RowR.shape{Q w wr v l}(h:RowR Q w wr v l):∃a c,v=.slice a l.length c:=by
  obtain⟨P,h⟩:=h;exact uk h.own
theorem ue4{Q w wr W1 a v g l x P}(h:urL Q w wr v l P)(k:Keep (fun _=>False) wr W1)(n:Ints Q .u8 w x.na x.q.name.nm.length (lf x.q.name.nm)/\Ints Q .i64 w x.sa x.q.name.set.length (lf x.q.name.set)/\TksA Q w x.ba x.q.body.tk/\x.q.body.tk.length<=x.bc)(o:OwnC (fun b=>P b\/W1.heap.size<=b) a g 6 (l.length+1) (l.flatMap rcv++rcv x))(d:Grew P W1 a):RowR Q w a g (l++[x]):=by
  have t:=h.keep.size;have z:=k.size;have A:=d.size;refine⟨fun b=>(P b\/W1.heap.size<=b)/\b<a.heap.size,?_,?_,?_,ye (h.keep.trans k) d (fun b q=>(h.new b q).1)⟩
  · have e:(l++[x]).flatMap rcv=l.flatMap rcv++rcv x:=by simp
    rw[e,List.length_append,List.length_singleton];rcases o with⟨_,q,_⟩|⟨b,cap,e,p,i,j,m,c⟩
    · omega
    refine .inr ⟨b,cap,e,⟨p,?_⟩,i,j,m,c⟩;obtain⟨u,r⟩:=Option.isSome_iff_exists.1 (c 0 (by omega)).1
    exact ud r
  · rintro b ⟨q | q,f⟩
    · exact⟨(h.new b q).1,f⟩
    · exact⟨by omega,f⟩
  · intro y s
    rcases List.mem_append.1 s with q | q
    · exact h.old y q
    · obtain rfl:=List.mem_singleton.1 q
      exact n
theorem RowR.read{Q w wr a n c L}(h:RowR Q w wr (.slice a n c) L):RlsA Q wr a (L.map (·.q)):=by
  obtain⟨P,h⟩:=h;rcases h.own with⟨_,q,_⟩|⟨g,cap,e,B,u,v,l,z⟩
  · exact .inl (by rw[List.eq_nil_of_length_eq_zero q];rfl)
  injection e with e1 e2 e3
  subst e1;refine .inr ⟨g,0,rfl,fun i x k=>?_⟩
  rw[List.getElem?_map]at k;obtain⟨y,f,rfl⟩:=Option.map_eq_some_iff.1 k;have A:=(List.getElem?_eq_some_iff.1 f).1;have o:=yi rcv 6 ujV L;have b:∀j,j<6->wr.cell? ⟨g,0+i*6+j,none⟩=(rcv y)[j]?:=fun j m=>by
    rw[Nat.zero_add,l (i*6+j) (by rw[o];omega),vw rcv 6 ujV L i j y f m]
  obtain⟨p,r,s,t⟩:=h.old y (List.mem_of_getElem? f);have d:=h.keep.bel;exact⟨b 0 (by omega),⟨b 1 (by omega),b 2 (by omega),⟨y.na,y.nc,b 3 (by omega),p.later d⟩,⟨y.sa,y.sc,b 4 (by omega),r.later d⟩⟩,y.ba,y.bc,b 5 (by omega),s.later d,t⟩
theorem um7(W:World)(x:RC){ty}:Src Tryz.prog 6 59 (.slice (some ⟨W.heap.size,0,none⟩) 1 1) 1 (rcv x) (W.alloc (.cells #[.bool x.q.car.isSome,.int .u8 x.q.name.kind,.int .i64 x.q.name.at_,.slice x.na x.q.name.nm.length x.nc,.slice x.sa x.q.name.set.length x.sc,.slice x.ba x.q.body.tk.length x.bc] ty)) :=
  yp Tryz.underlying59 rfl (fun j u a=>by
    have b:=World.alloc_heap_new W (.cells #[.bool x.q.car.isSome,.int .u8 x.q.name.kind,.int .i64 x.q.name.at_,.slice x.na x.q.name.nm.length x.nc,.slice x.sa x.q.name.set.length x.sc,.slice x.ba x.q.body.tk.length x.bc] ty);simp only[World.cell?,b];rw[<-a];simp[rcv]) (fun u a=>by
    simp only[rcv,List.mem_cons,List.not_mem_nil,or_false]at a;rcases a with rfl | rfl | rfl | rfl | rfl | rfl<;>rfl)
def rlI(Q:Nat->Prop)(w:World)(a:List Rl)(v u:Value)(wr:World):Prop :=
  ∃(done rest:List Rl) (L:List RC) (d:Nat),a=done++rest/\L.map (·.q)=done/\d=(done.flatMap Rl.tk).length/\u=.int .i64 (d:Nat)/\RowR Q w wr v L
def upy(Q:Nat->Prop)(b:List Rl)(w:World)(e:Ending)(w':World):Prop:=∃a c,e=.returned (.slice a b.length c)/\RlsA Q w' a b/\Keep (fun _=>False) w w'
theorem uhl Q o(aq:∀q∈o,q.ok)a c n w(hn:n=(o.flatMap Rl.tk).length)(hT:TksA Q w a (o.flatMap Rl.tk))(hl:n<=1048576)(hc:n<=c) :
    Calls Tryz.prog 24 #[.slice a n c] w (upy Q o w):=by
  have HT:Hid (TksA Q w a (o.flatMap Rl.tk)):=hT;have O:Hid (n=(o.flatMap Rl.tk).length):=hn;have aw:Hid (∀q∈o,q.ok):=aq;clear hT hn aq;go_enter Tryz.func24,Tryz.ntmps24;go_wp2;go_loopw [3,4] (rlI Q w o) (fun _ u _=>n-(intOf u).toNat)
  case atStart=>exact⟨[],o,[],0,rfl,rfl,rfl,rfl,RowR.nil (Keep.refl _ _)⟩
  case round =>
    obtain⟨done,rest,L,d,D,T,V,rfl,hR⟩:=hrel;obtain⟨G,H,rfl⟩:=hR.shape;cases rest with
    |nil =>
      have ax:d=n:=by rw[V,O.out,D,List.append_nil]
      have a7:¬(d:Int)<(n:Int):=by omega
      clear O V ax;have HR:Hid (RowR Q w wr (.slice G L.length H) L):=hR;have HL:Hid (L.map (·.q)=o):=by rw[D,List.append_nil];exact T
      clear D T hR;go_wp2;go_ret;have hl:L.length=o.length:=by rw[<-HL.out,List.length_map]
      obtain⟨P,U⟩:=HR.out;exact⟨G,H,by rw[hl];rfl,by rw[<-HL.out];exact HR.out.read,U.keep⟩
    |cons q rest =>
      have ad:=aw q (by rw[D];simp)
      have ak:o.flatMap Rl.tk=done.flatMap Rl.tk++(q.tk++rest.flatMap Rl.tk):=by rw[D];simp
      have ay:n=d+(q.tk.length+(rest.flatMap Rl.tk).length):=by rw[O.out,ak,List.length_append,List.length_append,V]
      have a3:=q.len;have az:d<n:=by omega
      obtain⟨b,off,rfl,ao⟩:=HT.at (i:=d) (by rw[<-O.out];exact az)
      have ap:∀m,m<q.tk.length->(o.flatMap Rl.tk)[d+m]? = q.tk[m]?:=fun m hm=>by
        rw[ak,List.getElem?_append_right (by omega),show d+m-(done.flatMap Rl.tk).length=m by omega,List.getElem?_append_left hm]
      have aa:∀m x,q.tk[m]? = some x->TokC Q w b (off+(d+m)*4) x:=fun m x h=>ao (d+m) x ((ap m (List.getElem?_eq_some_iff.1 h).1).trans h)
      have an:TksA Q w (some ⟨b,off+(d+q.k+2)*4,none⟩) q.body.tk:=by
        have:=TksA.sub (l:=q.tk) (off:=off+d*4) (fun m x h=>by rw[show off+d*4+m*4=off+(d+m)*4 by omega];exact aa m x h) (q.k+2) q.body.tk.length
        rw[q.body_at]at this
        rwa [show off+(d+q.k+2)*4=off+d*4+(q.k+2)*4 by omega]
      obtain⟨P,U⟩:=hR;have Z:=U.keep.bel;have A:Hid (urL Q w wr (.slice G L.length H) L P):=U;have ab:∀m x,q.tk[m]? = some x->TokC Q wr b (off+(d+m)*4) x:=fun m x h=>(aa m x h).later Z
      obtain⟨E,hE⟩:∃E,E=q.k+2+q.body.tk.length:=⟨_,rfl⟩;have a5:d+E<n:=by omega
      have ah:Hid (wr.cell? ⟨b,off+(d+E)*4,none⟩=some (.int .u8 59)):=by
        have:=(ab E q.semi (by rw[hE];exact q.last)).kind
        rw[ad.2.2.2.2]at this;exact this
      have ae:Hid (∀m,m<E->∃kk,wr.cell? ⟨b,off+(d+m)*4,none⟩=some (.int .u8 kk)/\kk≠59):=fun m hm=>by
        obtain⟨x,h⟩:∃x,q.tk[m]? = some x:=⟨_,List.getElem?_eq_getElem (by omega)⟩
        exact⟨x.kind,(ab m x h).kind,Rl.inner ad (by omega) h⟩
      have R:=ua (aa q.k q.name q.name_at);have r:=ua an;have HF:Hid (∃k0,wr.cell? ⟨b,off+d*4,none⟩=some (.int .u8 k0)/\(k0==94)=q.car.isSome):=by
        obtain⟨x,h⟩:∃x,q.tk[0]? = some x:=⟨_,List.getElem?_eq_getElem (by omega)⟩
        refine⟨x.kind,(ab 0 x h).kind,?_⟩;unfold Rl.tk at h;obtain⟨h1,h2,_⟩:=ad;cases hc:q.car with
        |none=>rw[hc]at h;simp at h;subst h;simp[h2]
        |some c=>rw[hc]at h;simp at h;subst h;simp[h1 c hc]
      have HQ:Hid (o=done++q::rest/\L.map (·.q)=done/\d=(done.flatMap Rl.tk).length):=⟨D,T,V⟩
      have a4:L.length<=1048576:=by
        have h1:L.length=done.length:=by rw[<-T,List.length_map]
        have h2:∀l:List Rl,l.length<=(l.flatMap Rl.tk).length:=fun l=>by
          induction l with
          |nil=>simp
          |cons x l ih=>have:=x.len;simp only[List.flatMap_cons,List.length_append,List.length_cons];omega
        have:=h2 done;omega
      clear D T V ak ap aa an ab U ao O ad ay a3;have hlt':(d:Int)<n:=by omega
      go_wp2;go_loopw [5] (fun vj w2=>∃m,m<=E/\vj=.int .i64 ((d+m:Nat):Int)/\wr=w2) (fun vj _=>n-(intOf vj).toNat)
      case atStart=>exact⟨0,by omega,rfl,rfl⟩
      case round =>
        obtain⟨m,hm,rfl,rfl⟩:=hrel;by_cases a1:m=E
        · subst a1
          have ks:=ah.out;obtain⟨k0,kf,ac⟩:=HF.out;clear HF ae ah;have hE':=hE;have z:Hid (m=q.k+2+q.body.tk.length):=hE;clear hE hE';obtain⟨f,j,n2,au⟩:=R.nm;obtain⟨g,p,n3,av⟩:=R.set;have I:Hid (Ints Q .u8 w f q.name.nm.length (lf q.name.nm)/\Ints Q .i64 w g q.name.set.length (lf q.name.set)):=⟨au,av⟩;have s:=ue R.kind Z;have r1:=ue R.at_ Z;have r2:=ue n2 Z;have r3:=ue n3 Z;clear n2 n3 au av R;cases N:q.car with
          |none =>
            have X:q.k=0:=by unfold Rl.k;rw[N];rfl
            rw[N]at ac;rw[X]at s r1 r2 r3 r z;simp only[Nat.add_zero,Option.isSome_none]at s r1 r2 r3 ac r z;obtain rfl:q.name.kind=k0:=by rw[kf]at s;injection s with s;injection s with _ s;exact s.symm
            clear kf;have al:m=2+q.body.tk.length:=by have:=z.out;omega
            obtain⟨e,S⟩:∃e,e=d+2:=⟨_,rfl⟩;rw[<-S]at r;obtain⟨J,C⟩:∃J,J=d+m:=⟨_,rfl⟩;have z9:d<=J:=by omega
            have z2:e<=J:=by omega
            have z3:(J:Int)<=(c:Int):=by omega
            have z4:¬c=e:=by omega
            have z5:q.body.tk.length<=c-e:=by omega
            have z6:J-e=q.body.tk.length:=by omega
            have z7:IntKind.i64.wrap ((d:Int)+2)=(e:Int):=by rw[show (d:Int)+2=(e:Int) by omega];exact ug9 (by omega) (by omega)
            have z8:0<=(d:Int):=by omega
            have af:Hid (Ints Q .u8 w f q.name.nm.length (lf q.name.nm)/\Ints Q .i64 w g q.name.set.length (lf q.name.set)/\TksA Q w (some ⟨b,off+e*4,none⟩) q.body.tk/\q.body.tk.length<=c-e):=⟨I.1,I.2,r,z5⟩;have B:Hid (o=(done++[q])++rest/\(L++[(⟨q,f,j,g,p,some ⟨b,off+e*4,none⟩,c-e⟩:RC)]).map (·.q)=done++[q]/\J+1=((done++[q]).flatMap Rl.tk).length):=by
              obtain⟨e1,e2,e3⟩:=HQ;refine⟨by rw[e1];simp,by rw[List.map_append,e2];rfl,?_⟩
              rw[List.flatMap_append,List.length_append,<-e3];simp only[List.flatMap_cons,List.flatMap_nil,List.append_nil,q.len];omega
            have ai:Hid (∀W1 F t,Keep (fun _=>False) wr W1->OwnC (fun b=>P b\/W1.heap.size<=b) t F 6 (L.length+1) (L.flatMap rcv++rcv ⟨q,f,j,g,p,some ⟨b,off+e*4,none⟩,c-e⟩)->Grew P W1 t->RowR Q w t F (L++[⟨q,f,j,g,p,some ⟨b,off+e*4,none⟩,c-e⟩])):=fun W1 F t k ho hg=>ue4 (x:=⟨q,f,j,g,p,some ⟨b,off+e*4,none⟩,c-e⟩) A k af ho hg
            have ag:Hid (OwnC P (wr.drew.alloc (.cells #[.bool false,.int .u8 q.name.kind,.int .i64 q.name.at_,.slice f q.name.nm.length j,.slice g q.name.set.length p,.slice (some ⟨b,off+e*4,none⟩) q.body.tk.length (c-e)] 64)) (.slice G L.length H) 6 L.length (L.flatMap rcv)):=A.out.own.on (fun b hb=>((Keep.drew (fun _=>False) wr).trans (Keep.alloc _ _ _)).block b (A.out.new b hb).2 (fun q=>q))
            have aj:Hid (Src Tryz.prog 6 59 (.slice (some ⟨wr.drew.heap.size,0,none⟩) 1 1) 1 (rcv ⟨q,f,j,g,p,some ⟨b,off+e*4,none⟩,c-e⟩) (wr.drew.alloc (.cells #[.bool false,.int .u8 q.name.kind,.int .i64 q.name.at_,.slice f q.name.nm.length j,.slice g q.name.set.length p,.slice (some ⟨b,off+e*4,none⟩) q.body.tk.length (c-e)] 64))):=by
              have:=um7 wr.drew ⟨q,f,j,g,p,some ⟨b,off+e*4,none⟩,c-e⟩ (ty:=64);simp only[N,Option.isSome_none]at this;exact this
            have a2:(J:Int)<(n:Int):=by omega
            rw[<-C]at ks;rw[<-C];have a0:(d:Int)<(n:Int):=by omega
            clear al A I r HQ z S C;go_upto_region 10 with fail
            go_region_law
              (refine ubi rfl (.tmp 29) (.tmp 41) 59 59 rfl (v:=.slice G L.length H) (y:=.slice (some ⟨wr.drew.heap.size,0,none⟩) 1 1) (by simp[Act.eval]) (by simp[Act.eval]) um6 (Q:=P) (n:=L.length) (cs:=L.flatMap rcv) (m:=1) (news:=rcv ⟨q,f,j,g,p,some ⟨b,off+e*4,none⟩,c-e⟩) ag.out aj.out (by omega) ?_
               intro v4 W4 Y W am;have HE:Hid (rlI Q w o v4 (.int .i64 ((J+1:Nat):Int)) W4):=⟨_,_,_,_,B.1,B.2.1,B.2.2,rfl,ai _ _ _ ((Keep.drew (fun _=>False) wr).trans (Keep.alloc _ _ _)) Y W⟩
               clear Y W am)
            all_goals go_goals
            all_goals (
              go_wp2;go_roundw;all_goals first
                |exact HE
                | (simp[intOf];omega)
                |omega)
          |some cc =>
            have X:q.k=1:=by unfold Rl.k;rw[N];rfl
            rw[N]at ac;rw[X]at s r1 r2 r3 r z;simp only[Option.isSome_some]at s r1 r2 r3 ac r z;have al:m=3+q.body.tk.length:=by have:=z.out;omega
            obtain⟨e,S⟩:∃e,e=d+1+2:=⟨_,rfl⟩;rw[<-S]at r;obtain⟨J,C⟩:∃J,J=d+m:=⟨_,rfl⟩;have z9:d<=J:=by omega
            have z2:e<=J:=by omega
            have z3:(J:Int)<=(c:Int):=by omega
            have z4:¬c=e:=by omega
            have z5:q.body.tk.length<=c-e:=by omega
            have z6:J-e=q.body.tk.length:=by omega
            have z7:IntKind.i64.wrap (((d:Int)+1)+2)=(e:Int):=by rw[show ((d:Int)+1)+2=(e:Int) by omega];exact ug9 (by omega) (by omega)
            have z8:0<=((d:Int)+1):=by omega
            have af:Hid (Ints Q .u8 w f q.name.nm.length (lf q.name.nm)/\Ints Q .i64 w g q.name.set.length (lf q.name.set)/\TksA Q w (some ⟨b,off+e*4,none⟩) q.body.tk/\q.body.tk.length<=c-e):=⟨I.1,I.2,r,z5⟩;have B:Hid (o=(done++[q])++rest/\(L++[(⟨q,f,j,g,p,some ⟨b,off+e*4,none⟩,c-e⟩:RC)]).map (·.q)=done++[q]/\J+1=((done++[q]).flatMap Rl.tk).length):=by
              obtain⟨e1,e2,e3⟩:=HQ;refine⟨by rw[e1];simp,by rw[List.map_append,e2];rfl,?_⟩
              rw[List.flatMap_append,List.length_append,<-e3];simp only[List.flatMap_cons,List.flatMap_nil,List.append_nil,q.len];omega
            have ai:Hid (∀W1 F t,Keep (fun _=>False) wr W1->OwnC (fun b=>P b\/W1.heap.size<=b) t F 6 (L.length+1) (L.flatMap rcv++rcv ⟨q,f,j,g,p,some ⟨b,off+e*4,none⟩,c-e⟩)->Grew P W1 t->RowR Q w t F (L++[⟨q,f,j,g,p,some ⟨b,off+e*4,none⟩,c-e⟩])):=fun W1 F t k ho hg=>ue4 (x:=⟨q,f,j,g,p,some ⟨b,off+e*4,none⟩,c-e⟩) A k af ho hg
            have ag:Hid (OwnC P (wr.drew.alloc (.cells #[.bool true,.int .u8 q.name.kind,.int .i64 q.name.at_,.slice f q.name.nm.length j,.slice g q.name.set.length p,.slice (some ⟨b,off+e*4,none⟩) q.body.tk.length (c-e)] 64)) (.slice G L.length H) 6 L.length (L.flatMap rcv)):=A.out.own.on (fun b hb=>((Keep.drew (fun _=>False) wr).trans (Keep.alloc _ _ _)).block b (A.out.new b hb).2 (fun q=>q))
            have aj:Hid (Src Tryz.prog 6 59 (.slice (some ⟨wr.drew.heap.size,0,none⟩) 1 1) 1 (rcv ⟨q,f,j,g,p,some ⟨b,off+e*4,none⟩,c-e⟩) (wr.drew.alloc (.cells #[.bool true,.int .u8 q.name.kind,.int .i64 q.name.at_,.slice f q.name.nm.length j,.slice g q.name.set.length p,.slice (some ⟨b,off+e*4,none⟩) q.body.tk.length (c-e)] 64))):=by
              have:=um7 wr.drew ⟨q,f,j,g,p,some ⟨b,off+e*4,none⟩,c-e⟩ (ty:=64);simp only[N,Option.isSome_some]at this;exact this
            have a2:(J:Int)<(n:Int):=by omega
            rw[<-C]at ks;rw[<-C];have a0:((d:Int)+1)<(n:Int):=by omega
            clear al A I r HQ z S C;go_upto_region 10 with fail
            go_region_law
              (refine ubi rfl (.tmp 29) (.tmp 41) 59 59 rfl (v:=.slice G L.length H) (y:=.slice (some ⟨wr.drew.heap.size,0,none⟩) 1 1) (by simp[Act.eval]) (by simp[Act.eval]) um6 (Q:=P) (n:=L.length) (cs:=L.flatMap rcv) (m:=1) (news:=rcv ⟨q,f,j,g,p,some ⟨b,off+e*4,none⟩,c-e⟩) ag.out aj.out (by omega) ?_
               intro v4 W4 Y W am;have HE:Hid (rlI Q w o v4 (.int .i64 ((J+1:Nat):Int)) W4):=⟨_,_,_,_,B.1,B.2.1,B.2.2,rfl,ai _ _ _ ((Keep.drew (fun _=>False) wr).trans (Keep.alloc _ _ _)) Y W⟩
               clear Y W am)
            all_goals go_goals
            all_goals (
              go_wp2;go_roundw;all_goals first
                |exact HE
                | (simp[intOf];omega)
                |omega)
        · obtain⟨kk,ks,X⟩:=ae m (by omega)
          have hk':(kk != 59)=true:=by simpa using X
          have a6:((d+m:Nat):Int)<n:=by omega
          clear HF ae ah;go_wp2;go_roundw
          case rel=>exact⟨m+1,by omega,by go_num,by trivial⟩
          case measure=>simp[intOf];omega
def ltB:List Int->List Int->Prop
 |_,[]=>False
 |[],_::_=>True
 |x::r,y::s=>x<y\/(x=y/\ltB r s)
theorem ufV a:¬ltB a []:=by cases a<;>exact λh=>h
theorem xx:∀a,¬ltB a a
 |[]=>λh=>h
 |x::r=>λh=>h.elim (λq=>by omega) (λq=>xx r q.2)
theorem udz:∀{a b c},ltB a b->ltB b c->ltB a c
 |_,[],_,h,_=>absurd h (ufV _)
 |_,_::_,[],_,h=>absurd h (ufV _)
 |[],_::_,_::_,_,_=>trivial
 |x::a,y::b,z::c,h,k=>by
  rcases h with h|⟨h,d⟩<;>rcases k with k|⟨k,e⟩
  ·exact .inl (by omega)
  ·exact .inl (by omega)
  ·exact .inl (by omega)
  exact .inr ⟨by omega,udz d e⟩
theorem ufW:∀a b,ltB a b\/a=b\/ltB b a
 |[],[]=>.inr (.inl rfl)
 |[],_::_=>.inl trivial
 |_::_,[]=>.inr (.inr trivial)
 |x::a,y::b=>by
  rcases Int.lt_trichotomy x y with h|h|h
  ·exact .inl (.inl h)
  ·rcases ufW a b with k|k|k
   ·exact .inl (.inr ⟨h,k⟩)
   ·exact .inr (.inl (by rw[h,k]))
   exact .inr (.inr (.inr ⟨h.symm,k⟩))
  exact .inr (.inr (.inl h))
theorem ufX:∀a b,M.LessT a.length (lf a) b.length (lf b)↔ltB a b
 |a,[]=>by
  constructor
  ·rintro⟨k,_,f,g,h|h⟩
   ·simp at h
   simp at h
  exact λh=>absurd h (ufV _)
 |[],y::s=>⟨λ_=>trivial,λ_=>⟨0,λi l=>by omega,Nat.zero_le _,Nat.zero_le _,.inr ⟨rfl,by simp⟩⟩⟩
 |x::r,y::s=>by
  constructor
  ·rintro⟨k,e,f,g,h⟩;cases k with
   |zero =>
    rcases h with⟨_,_,h⟩|⟨h,_⟩
    ·exact .inl h
    simp at h
   |succ k =>
    refine .inr ⟨e 0 (by omega),(ufX r s).1 ⟨k,λi l=>e (i+1) (by omega),by simpa using f,by simpa using g,?_⟩⟩;rcases h with⟨c,d,j⟩|⟨c,d⟩
    ·exact .inl ⟨by simpa using c,by simpa using d,j⟩
    exact .inr ⟨by simpa using c,by simpa using d⟩
  rintro (h|⟨h,m⟩)
  ·exact⟨0,λi l=>by omega,Nat.zero_le _,Nat.zero_le _,.inl ⟨by simp,by simp,h⟩⟩
  obtain⟨k,e,f,g,n⟩:=(ufX r s).2 m;refine⟨k+1,λi l=>?_,by simpa using f,by simpa using g,?_⟩
  ·cases i with
   |zero=>exact h
   |succ i=>exact e i (by omega)
  rcases n with⟨c,d,j⟩|⟨c,d⟩
  ·exact .inl ⟨by simpa using c,by simpa using d,j⟩
  exact .inr ⟨by simpa using c,by simpa using d⟩
def Asc:List (List Int)->Prop
 |[]=>True
 |x::r=>(∀y∈r,ltB x y)/\Asc r
theorem Asc.snoc:∀{l:List (List Int)} {z:List Int},Asc l->(∀y∈l,ltB y z)->Asc (l++[z])
 |[],z,_,_=>⟨(λy a=>by cases a),trivial⟩
 |x::r,z,h,k=>⟨λy a=>by
   rcases List.mem_append.1 a with q|q
   ·exact h.1 y q
   rw[List.mem_singleton.1 q];exact k x (by simp),Asc.snoc h.2 (λy a=>k y (by simp[a]))⟩
theorem Asc.len:∀{l m:List (List Int)},Asc l->(∀z∈l,z∈m)->l.length<=m.length
 |[],m,_,_=>Nat.zero_le _
 |x::l,m,h,k=>by
  have a:=k x (by simp);have:=Asc.len (m:=m.erase x) h.2 (λz b=>(List.mem_erase_of_ne (λq=>by subst q;exact xx z (h.1 z b))).2 (k z (by simp[b])));rw[List.length_erase_of_mem a]at this;have:0<m.length:=List.length_pos_of_mem a;simp only[List.length_cons];omega
def yj:List Tok->List (List Int)
 |[]=>[]
 |[_]=>[]
 |x::y::r=>(if x.kind=94 then [y.nm] else [])++yj (y::r)
def xe(q:Rl):List (List Int):=(if q.car.isSome then [q.name.nm] else [])++yj q.body.tk
def uB(a:List Rl):List (List Int):=a.flatMap xe
theorem uhh{l:List Tok}{j:Nat}{x y:Tok}(a:l[j]?=some x)(b:l[j+1]?=some y):yj (l.drop j)=(if x.kind=94 then [y.nm] else [])++yj (l.drop (j+1)):=by
 rw[xj a,xj b,yj]
theorem uiB{l:List Tok}{j:Nat}(h:l.length<=j+1):yj (l.drop j) = []:=by
 by_cases a:j<l.length
 ·have e:l.drop j = [l[j]]:=by rw[List.drop_eq_getElem_cons a,List.drop_of_length_le h]
  rw[e,yj]
 rw[List.drop_of_length_le (by omega),yj]
theorem udA:∀{l:List Tok} {z:List Int},z∈yj l->∃t∈l,t.nm=z
 |[],_,h=>by cases h
 |[_],_,h=>by cases h
 |x::y::r,z,h=>by
  rw[yj]at h;rcases List.mem_append.1 h with q|q
  ·split at q
   ·exact⟨y,by simp,(List.mem_singleton.1 q).symm⟩
   cases q
  obtain⟨t,a,b⟩:=udA q;exact⟨t,List.mem_cons_of_mem _ a,b⟩
theorem udB:∀l:List Tok,(yj l).length<=l.length
 |[]=>Nat.le_refl _
 |[_]=>Nat.zero_le _
 |x::y::r=>by
  have:=udB (y::r);rw[yj,List.length_append];split<;>simp at this ⊢<;>omega
end Go.Proofs.YtimfigongapdnaaGreat
