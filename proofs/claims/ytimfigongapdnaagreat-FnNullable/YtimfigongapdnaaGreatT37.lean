import Derived.Test.YtimfigongapdnaaGreatT36
import Derived.Test.YtimfigongapdnaaGreatT19
set_option linter.unusedVariables false
set_option linter.unusedSimpArgs false
set_option maxHeartbeats 40000000
set_option maxRecDepth 100000
namespace Go.Proofs.YtimfigongapdnaaGreat
open Go.RowKit Go.Shelf
open M (OpD ug Gr)
attribute [local go_sem] Oper.semAt_some
theorem usu{F:Fence}{N:Nat}{ops:Array Oper}{rest:List Oper}{o:Oper}{a:Act}{P':Exit->Act->World->Prop}{w:World}(hgd:o.guard=none)(s x:Operand)(t tx:TypeId)(ho:o.op=.call { callee:=.builtin .append,args:=#[s,x],argTypes:=#[t,tx] })
  {Q:Nat->Prop} {v y:Value} {e:TypeId} {sz bytes n m:Nat} {cs news:List Value} (hs:a.eval s=v) (hx:a.eval x=y) (hE:vG t e sz bytes) (hown:OwnC Q w v sz n cs) (hsrc:Src Tryz.prog sz tx y m news w) (hlen:n+m<=16777216) (hm:v=.slice none 0 0->0<m)
  (h:∀v' w',OwnC (fun b=>Q b\/w.heap.size<=b) w' v' sz (n+m) (cs++news)->Grew (fun b=>Q b) w w'->w'.heap.size<=w.heap.size+1->wpListIn F N Tryz.prog ops P' rest (a.put o.dst v') w'):wpListIn F N Tryz.prog ops P' (o::rest) a w:=by
 refine wpListIn_plain hgd fun K hK=>?_
 obtain⟨v',w',hr,h1,h2,h3⟩:=ym o.type hE hown hsrc hlen hm;unfold Oper.wpIn;refine⟨?_,?_⟩
 ·simp[Oper.about,ho,resolve,Target.leads,Sem.run_pure]
 ·rw[Oper.semAt_plain F _ _ (by rw[ho];intro c hc';cases hc')]
  simp[execOp,ho,resolve,invoke,builtin,hs,hx,hr,Result.andThen];exact hK _ _ (h v' w' h1 h2 h3)
def ufo(g:Gr)(ba:Nat->Option Addr)(bc:Nat->Nat)(p:Nat):List Value:=(List.range p).map (fun i=>Value.slice (ba i) (nd g i).bl (bc i))
theorem ukx(g:Gr)(ba:Nat->Option Addr)(bc:Nat->Nat)(p:Nat):ufo g ba bc (p+1)=ufo g ba bc p++[.slice (ba p) (nd g p).bl (bc p)]:=by simp[ufo,List.range_succ]
theorem uqT:(Tryz.prog.info? 68).map (fun i=>(i.zero,i.size,i.bytes))=some (some (.slice none 0 0),1,24):=by kernel_rfl
theorem uqU:vG 75 68 1 24:=⟨Tryz.underlying75,⟨_,uqT,rfl⟩,by omega⟩
theorem uky{w:World}{g:Nat}{u:Value}(h0:w.cell? ⟨g,0,none⟩=some u)(o0:u.oneCell'=true):Src Tryz.prog 1 75 (.slice (some ⟨g,0,none⟩) 1 1) 1 [u] w:=by
 refine Src.ofSlice (P:=Tryz.prog) w Tryz.underlying75 ⟨g,0,none⟩ 1 1 [u] rfl (fun j u' hu=>?_) (fun u' hu=>?_)
 ·match j,hu with
  |0,hu=>simp at hu;subst hu;simpa[Addr.add] using h0
  |j+1,hu=>simp at hu
 ·simp at hu
  subst hu;exact o0
structure BodI(w:World)(g:Gr)(ba:Nat->Option Addr)(bc:Nat->Nat)(p:Nat)(x:World):Prop where
 le:p<=g.nr+g.nb
 val:∃v,x.cell? ⟨w.heap.size+1,0,none⟩=some v/\OwnC (fun b=>w.heap.size+4<b) x v 1 p (ufo g ba bc p)
 soft:x.frozen? ⟨w.heap.size+1,0,none⟩=false
 bel:Below w.heap.size w x
 size:w.heap.size+3<=x.heap.size
theorem BodI.keep{w:World}{g:Gr}{ba:Nat->Option Addr}{bc:Nat->Nat}{p:Nat}{A E:World}(h:BodI w g ba bc p A)(k:Keep (fun k=>k=w.heap.size+3\/k=w.heap.size+3+1) A E):BodI w g ba bc p E:=by
 have hs:=h.size;obtain⟨v,h1,h2⟩:=h.val;have e1:=k.block (w.heap.size+1) (by omega) (fun q=>by omega)
 refine⟨h.le,⟨v,(World.cell?_of_block (a:=⟨w.heap.size+1,0,none⟩) e1).trans h1,?_⟩,(World.frozen?_of_block (a:=⟨w.heap.size+1,0,none⟩) e1).trans h.soft,⟨k.os.trans h.bel.os,k.tape.trans h.bel.tape,k.output.trans h.bel.output,Nat.le_trans h.bel.size k.size,fun b hb=>(k.block b (by omega) (fun q=>by omega)).trans (h.bel.block b hb)⟩,Nat.le_trans hs k.size⟩
 rcases h2 with h2 | ⟨g',cap,e,hq,h3,h4,h5,h6⟩
 ·exact .inl h2
 ·by_cases hc:cap=0
  ·subst hc
   exact .inr ⟨g',0,e,hq,h3,h4,fun j hj=>absurd hj (by rw[h3];omega),fun j hj=>by omega⟩
  ·have hg:g'<A.heap.size:=by
    obtain⟨u,hu⟩:=Option.isSome_iff_exists.1 (h6 0 (by omega)).1
    exact ud hu
   have e':=k.block g' hg (fun q=>by omega)
   exact .inr ⟨g',cap,e,hq,h3,h4,fun j hj=>by rw[World.cell?_of_block (a:=⟨g',j,none⟩) e'];exact h5 j hj,h6.later e'⟩
theorem ulS{w x2 W':World}{g:Gr}{ba:Nat->Option Addr}{bc:Nat->Nat}{p:Nat}{a':Option Addr}{c':Nat}{v:Value}{o:Obj}(hI:BodI w g ba bc p x2)(hx:w.heap.size+4<=x2.heap.size)(k1:W'.cell? ⟨w.heap.size+1,0,none⟩=some v)
  (hO:OwnC (fun b=>w.heap.size+4<b\/(x2.alloc o).heap.size<=b) W' (.slice a' (p+1) c') 1 (p+1) (ufo g ba bc p++[.slice (ba p) (nd g p).bl (bc p)])) (hG:Grew (fun b=>w.heap.size+4<b) (x2.alloc o) W') (hp:p+1<=g.nr+g.nb) :
  Keep (fun k=>k=w.heap.size+1\/w.heap.size+4<k) x2 (W'.setCell ⟨w.heap.size+1,0,none⟩ (.slice a' (p+1) c'))/\BodI w g ba bc (p+1) (W'.setCell ⟨w.heap.size+1,0,none⟩ (.slice a' (p+1) c')):=by
 have sG:=hG.size;rw[World.size_alloc]at sG;have old:∀b,b<x2.heap.size->¬w.heap.size+4<b->W'.heap[b]? = x2.heap[b]?:=fun b hb hn=>(hG.block b (by rw[World.size_alloc];omega) hn).trans (Below.heap_alloc x2 o b hb)
 constructor
 ·exact⟨hG.os,hG.tape,hG.output,by rw[uj];omega,fun k hk hc=>(Below.heap_setCell _ _ _ k (fun e=>hc (.inl e))).trans (old k hk (fun q=>hc (.inr q)))⟩
 ·refine⟨hp,⟨_,uu k1,?_⟩,?_,?_,by rw[uj];omega⟩
  ·rw[ukx]
   have q:OwnC (fun b=>w.heap.size+4<b) W' (.slice a' (p+1) c') 1 (p+1) (ufo g ba bc p++[.slice (ba p) (nd g p).bl (bc p)]):=jw hO (fun b q=>by
    rcases q with q | q
    ·exact q
    ·rw[World.size_alloc]at q;omega)
   exact q.on (fun b hb=>Below.heap_setCell _ _ _ b (fun e=>by simp only at e;omega))
  ·rw[World.frozen?_setCell,World.frozen?_of_block (a:=⟨w.heap.size+1,0,none⟩) (old (w.heap.size+1) (by omega) (by omega))]
   exact hI.soft
  ·exact⟨hG.os.trans hI.bel.os,hG.tape.trans hI.bel.tape,hG.output.trans hI.bel.output,by rw[uj];have:=hI.bel.size;omega,fun b hb=>(Below.heap_setCell _ _ _ b (fun e=>by simp only at e;omega)).trans ((old b (by have:=hI.bel.size;omega) (by omega)).trans (hI.bel.block b hb))⟩
def ute(cd:Code)(p:Nat)(x:World):Prop:=False
structure ulT(Q:Nat->Prop)(g:Gr)(w:World)(e:Ending)(w':World):Prop where
 val:∃b cap,e=.returned (.slice (some ⟨b,0,none⟩) (g.nr+g.nb) cap)/\BodsA Q w' b g (g.nr+g.nb)
 bel:Below w.heap.size w w'
theorem ugv(Q:Nat->Prop)(ra la:Option Addr)(rc lc:Nat)(g:Gr)(rb ro lb lo:Nat)(na ba:Nat->Option Addr)(nc bc:Nat->Nat)(w:World)
  (h0:0<g.nr) (h1:g.nr<=100) (h2:g.nb<=100) (hF:∀W,Below w.heap.size w W->Flat W ra la g rb ro lb lo na ba nc bc) (hO:∀p,p<g.nr+g.nb->OpsA Q w (ba p) (nd g p).bl (nd g p).body) :
  CallsIn Fence.wide 0 Tryz.prog 31 #[.agg #[.slice ra g.nr rc,.slice la g.nb lc]] w (ulT Q g w):=by
 have hdep:Fence.wide.depth=none:=rfl;have HF:=ua hF;have HO:=ua hO;have hlr:0<g.nr->rb<w.heap.size:=fun h=>ud ((hF w (Below.refl _ _)).r0 0 h)
 have hll:0<g.nb->lb<w.heap.size:=fun h=>ud ((hF w (Below.refl _ _)).l0 0 h)
 clear hF hO;refine callsIn_of_wp_marks Tryz.func31 rfl trivial ?_ rfl;simp only[Tryz.ntmps31,List.size_toArray,List.length_cons,List.length_nil,Nat.reduceAdd,Nat.reduceSub,Array.replicate_succ,Array.replicate_zero,List.push_toArray,List.append_toArray,List.nil_append,List.cons_append]
 gi_wp2_with (refine⟨trivial,?_⟩;gi_at_call 73;refine (udW _ _ _ _ _ _ _).mono ?_;rintro e w' ⟨rfl,rfl⟩)
 obtain⟨Wl,hWl⟩:=nm (((w.alloc (Obj.cells #[Value.slice ra g.nr rc,Value.slice la g.nb lc] 28)).alloc (Obj.cells #[Value.slice none 0 0] 75)).alloc (Obj.cells #[Value.slice ra g.nr rc,Value.slice la g.nb lc] 28));have sWl:Wl.heap.size=w.heap.size+3:=by rw[<-hWl];simp
 have bWl:Below w.heap.size w Wl:=by rw[<-hWl];exact udT w _ _ _
 have hr:=xy (w.alloc (Obj.cells #[Value.slice ra g.nr rc,Value.slice la g.nb lc] 28)) (.slice none 0 0) 75;have hrf:=uan (w.alloc (Obj.cells #[Value.slice ra g.nr rc,Value.slice la g.nb lc] 28)) (.slice none 0 0) 75;have hx:=xm ((w.alloc (Obj.cells #[Value.slice ra g.nr rc,Value.slice la g.nb lc] 28)).alloc (Obj.cells #[Value.slice none 0 0] 75)) (.slice ra g.nr rc) (.slice la g.nb lc) 28;simp only[World.size_alloc]at hr hrf hx;rw[hWl]at hx;have oWl:BodI w g ba bc 0 Wl:=⟨Nat.zero_le _,⟨_,by rw[<-hWl];exact uA _ hr,.inl ⟨rfl,rfl,rfl⟩⟩,by rw[<-hWl];exact qO _ hr hrf,bWl,by omega⟩
 rw[hWl];clear hWl hr hrf;refine uiW (gf:=107) (lb:=#[.pointer (some ⟨w.heap.size+1+1,0,none⟩)]) rfl (enters_of Tryz.func107 (by kernel_rfl) rfl)
  (ugb (w.heap.size+1+1) ra la rc lc g rb ro lb lo na ba nc bc Wl (by omega) (by omega) hx.1 hx.2 (HF Wl bWl)) (fun _=>rfl) ?hD (fun k=>k=w.heap.size+1\/w.heap.size+4<k) ?hCD ?hC0 ?hC1
  (BodI w g ba bc) ute ?hI ?hIx oWl ?round ?done ?stop
 case hD =>
  rintro k (rfl | ⟨rfl,hm0⟩|⟨rfl,hm0⟩)
  ·omega
  ·have:=hlr hm0;omega
  ·have:=hll hm0;omega
 case hCD =>
  rintro k (rfl | ⟨rfl,hm0⟩|⟨rfl,hm0⟩) hc
  ·omega
  ·have:=hlr hm0;omega
  ·have:=hll hm0;omega
 case hC0=>rw[sWl];omega
 case hC1=>rw[sWl];omega
 case hI =>
  rintro s A E hI hk;rw[sWl]at hk;exact hI.keep hk
 case hIx=>rintro cd s A E hx;exact hx.elim
 case round =>
  intro l' p x hl1 hl2 hIs hlt;unfold ubH
  gi_wp2
  refine⟨Keep.refl _ _,hIs,?_⟩;clear hIs;rintro x2 hk2 hs2 hI2;have hx4':w.heap.size+4<=x2.heap.size:=by rw[hs2];have:=sWl;omega
  obtain⟨v,k1,hown⟩:=hI2.val;obtain⟨av,cv,rfl⟩:=uk hown;have k2:=hI2.soft;have HI:=ua hI2;have HOWN:=ua hown;clear hown hI2;have lx:=ud k1;have hx4:=ua hx4';have HX1:Hid (w.heap.size+1<(x2.alloc (.cells #[.slice (ba p) (nd g p).bl (bc p)] 68)).heap.size):=by show _<_;rw[World.size_alloc];omega
  clear hs2 hk2 hx4'
  gi_wp2_with (gi_at_builtin;refine usu rfl _ _ 75 75 rfl rfl rfl uqU (Q:=fun b=>w.heap.size+4<b) (udX HOWN (by omega) (ui x2 (.cells #[.slice (ba p) (nd g p).bl (bc p)] 68))) (uky (u:=.slice (ba p) (nd g p).bl (bc p)) (cN x2.heap.size rfl rfl) rfl) (by omega) (fun _=>Nat.one_pos) ?_;intro v' W' hown' hgrew hsz;obtain⟨a',c',rfl⟩:=uk hown';have blk:=(hgrew.block (w.heap.size+1) HX1 (fun q=>by omega)).trans (Below.heap_alloc x2 (.cells #[.slice (ba p) (nd g p).bl (bc p)] 68) _ lx);have k1':W'.cell? ⟨w.heap.size+1,0,none⟩=some (.slice av p cv):=(World.cell?_of_block (a:=⟨w.heap.size+1,0,none⟩) blk).trans k1;have k2':W'.frozen? ⟨w.heap.size+1,0,none⟩=false:=(World.frozen?_of_block (a:=⟨w.heap.size+1,0,none⟩) blk).trans k2;have HO':Hid (OwnC (fun b=>w.heap.size+4<b\/(x2.alloc (.cells #[.slice (ba p) (nd g p).bl (bc p)] 68)).heap.size<=b) W' (.slice a' (p+1) c') 1 (p+1) (ufo g ba bc p++[.slice (ba p) (nd g p).bl (bc p)])):=hown';have HG:Hid (Grew (fun b=>w.heap.size+4<b) (x2.alloc (.cells #[.slice (ba p) (nd g p).bl (bc p)] 68)) W'):=hgrew;clear hown' hgrew hsz blk)
  exact ulS HI hx4 k1' HO' HG (by omega)
 case done =>
  rintro d p x hd hnm hI2 hK;obtain⟨v,k1,hown⟩:=hI2.val;have hle:=hI2.le;obtain rfl:p=g.nr+g.nb:=by omega
  rcases hown with⟨_,q,_⟩|⟨b,cap,rfl,hq,h3,h4,h5,h6⟩
  ·omega
  have hbel:=hI2.bel;have hsz:=hI2.size;have hbx:b<x.heap.size:=by
   obtain⟨u,hu⟩:=Option.isSome_iff_exists.1 (h6 0 (by omega)).1
   exact ud hu
  have H5:=ua h5;clear h5 h6
  gi_wp2
  refine⟨by simp,.inl ⟨_,_,rfl,run_takeDeferred hK,?_⟩⟩
  have hbd:b≠d:=by
   rintro rfl;have h:=H5 0 (by rw[h3];omega)
   have h':x.cell? ⟨b,0,none⟩=none:=by simp[World.cell?,hK]
   rw[h']at h;have hl:0<(ufo g ba bc (g.nr+g.nb)).length:=by rw[h3];omega
   rw[List.getElem?_eq_getElem hl]at h;cases h
  have hbp:=xE (B:=w.heap.size) x (.deferred none) (d:=d) (by omega) (by omega)
  refine⟨.slice (some ⟨b,0,none⟩) (g.nr+g.nb) cap,?_,⟨⟨b,cap,rfl,fun i hi=>⟨ba i,bc i,?_,?_⟩⟩,hbel.trans hbp⟩⟩
  ·simp[results,Tryz.f31,go_sem]
  ·rw[World.cell?_of_block (a:=⟨b,i,none⟩) (World.putObj_heap_other hbd),H5.out i (by rw[h3];omega)]
   simp[ufo,hi]
  ·exact (HO i hi).later (hbel.trans hbp)
 case stop=>rintro d cd p x hd hsm hx;exact hx.elim
theorem ufp(Q:Nat->Prop)(ra la:Option Addr)(rc lc:Nat)(g:Gr)(w:World)(hG:GramA Q w ra la g)(h0:0<g.nr)(h1:g.nr<=100)(h2:g.nb<=100) :
  Calls Tryz.prog 31 #[.agg #[.slice ra g.nr rc,.slice la g.nb lc]] w (ulT Q g w):=by
 obtain⟨rb,ro,lb,lo,na,ba,nc,bc,hF,hO⟩:=ugu hG;exact callsIn_wide.1 (ugv Q ra la rc lc g rb ro lb lo na ba nc bc w h0 h1 h2 (fun W hW=>hF.later hW) hO)
open Go.RowKit
def ukb(v:Option Value):Nat:=match v with|some (.int _ x)=>x.toNat|_=>0
def uaZ(w:World)(b:Nat):NS:=⟨ukb (w.cell? ⟨b,0,none⟩),ukb (w.cell? ⟨b,1,none⟩),ukb (w.cell? ⟨b,2,none⟩),ukb (w.cell? ⟨b,3,none⟩)⟩
theorem ubD{w b s}(h:At w b s):uaZ w b=s:=by
 obtain⟨a,c,d,e⟩:=h.cells;unfold uaZ;rw[a,c,d,e];rfl
def ua0(w:World)(b:Nat):Nat:=match w.cell? ⟨b,0,none⟩ with|some (.slice _ n _)=>n|_=>0
theorem ubE{Q w b L}(h:WL Q w b L):ua0 w b=L.length:=by
 obtain⟨v,d,e⟩:=h.val;obtain⟨a,c,rfl⟩:=uk e;unfold ua0;rw[d]
def ucs(v:Value):Nat:=match v with|.bool true=>1|_=>0
def SetN(w:World)(b o n:Nat)(U:Nat->NS):Prop:=∀i,i<n->w.cell? ⟨b,o+i*4,none⟩=some (.int .u64 (U i).a)/\w.cell? ⟨b,o+i*4+1,none⟩=some (.int .u64 (U i).b)/\w.cell? ⟨b,o+i*4+2,none⟩=some (.int .u64 (U i).c)/\w.cell? ⟨b,o+i*4+3,none⟩=some (.int .u64 (U i).d)
theorem SetN.later{w w' b o n U}(h:SetN w b o n U)(k:Below w.heap.size w w'):SetN w' b o n U:=λi a =>
 ⟨ue (h i a).1 k,ue (h i a).2.1 k,ue (h i a).2.2.1 k,ue (h i a).2.2.2 k⟩
theorem ub8(s:NS)(p:Nat)(w:World)(g:s.OK)(f:p<256) :
  Calls Tryz.prog 33 #[.agg #[.int .u64 s.a,.int .u64 s.b,.int .u64 s.c,.int .u64 s.d],.int .i64 p] w λe w'=>e=.returned (.bool (s.has p))/\Below w.heap.size w w' :=
 (ukf s p w g f).mono (λe w' h=>⟨h.1,by rw[h.2];exact ui w _⟩)
def Qm(w:World)(a:Nat)(b:Nat):Prop:=w.heap.size+1<b/\b≠a
def utt(w:World)(n:Nat)(a:Value)(wr:World):Prop :=
 ∃k:Nat,k<=n/\a=.int .i64 (k:Int)/\WL (λb=>w.heap.size+1<b) wr (w.heap.size+1) (List.range k)/\At wr w.heap.size nz/\Below w.heap.size w wr
def lmI(w:World)(n a:Nat)(F:(Nat->Bool)->Nat->Bool)(b c:Value)(wr:World):Prop :=
 ∃(L:List Nat) (S:NS),S.OK/\WL (Qm w a) wr (w.heap.size+1) L/\At wr w.heap.size nz/\At wr a S/\w.heap.size+1<a/\Below w.heap.size w wr /\
  ((c=.bool false/\(∃x:Int,b=.int .i64 x)/\L = []/\M.WI n F [] S.has)\/(∃x:Nat,c=.bool true/\b=.int .i64 (x:Int)/\M.WI n F (L++[x]) S.has/\M.left n S.has (L.length+1)<=n*(n+1)+n))
def utu(w:World)(n a x:Nat)(U:Nat->NS)(S:NS)(L:List Nat)(b:Value)(wr:World):Prop :=
 ∃k:Nat,k<=n/\b=.int .i64 (k:Int)/\WL (Qm w a) wr (w.heap.size+1) (L++M.users (λv y=>(U v).has y) x k)/\At wr w.heap.size nz/\At wr a S/\Below w.heap.size w wr
theorem ua1{Q B w w'}(h:Grew Q w w')(c:B<=w.heap.size)(a:∀b,Q b->B<=b):Below B w w' :=
 ⟨h.os,h.tape,h.output,h.size,λb d=>h.block b (by omega) (λq=>by have:=a b q;omega)⟩
theorem WL.wide{Q Q' w a L}(h:WL Q w a L)(k:∀b,Q b->Q' b):WL Q' w a L:=by
 obtain⟨v,c,d⟩:=h.val;refine⟨⟨v,c,?_⟩,h.soft⟩;rcases d with h|⟨g,cap,e,i,f⟩
 ·exact .inl h
 exact .inr ⟨g,cap,e,k g i,f⟩
theorem WL.wideN{Q Q' w c L}(h:WL Q w c L)(p:0<L.length)(k:∀b,Q b->b<w.heap.size->Q' b):WL Q' w c L:=by
 obtain⟨v,d,f⟩:=h.val;refine⟨⟨v,d,?_⟩,h.soft⟩;rcases f with h|⟨g,cap,e,n,i,j,l,a⟩
 ·exact .inl h
 have m:g<w.heap.size:=by
  obtain⟨u,o⟩:=Option.isSome_iff_exists.1 (a 0 (by omega)).1;exact ud o
 exact .inr ⟨g,cap,e,k g n m,i,j,l,a⟩
theorem WL.later{Q w w' d L}(h:WL Q w d L)(k:Below w.heap.size w w'):WL Q w' d L:=by
 obtain⟨v,m,n⟩:=h.val;refine⟨⟨v,ue m k,?_⟩,?_⟩
 ·rcases n with h|⟨g,cap,e,l,c,f,o,i⟩
  ·exact .inl h
  by_cases q:cap=0
  ·subst q;exact .inr ⟨g,0,e,l,c,f,λj b=>absurd b (by rw[c];omega),λj b=>by omega⟩
  have r:g<w.heap.size:=by
   obtain⟨u,s⟩:=Option.isSome_iff_exists.1 (i 0 (by omega)).1;exact ud s
  have e':=k.block g r;exact .inr ⟨g,cap,e,l,c,f,λj b=>by rw[World.cell?_of_block (a:=⟨g,j,none⟩) e'];exact o j b,i.later e'⟩
 rw[k.frozen (p:=⟨d,0,none⟩) h.lt];exact h.soft
theorem uhG{n m k c}(h:M.left n m k<=c):k<=c:=by unfold M.left at h;omega
def utv(w:World)(n d:Nat)(F:(Nat->Bool)->Nat->Bool)(c:Nat)(e:Ending)(a:World):Prop :=
 ∃f b,e=.returned (.tuple #[f,b])/\lmI w n d F f b a/\M.left n (uaZ a d).has (ua0 a (w.heap.size+1)+ucs b)=c
theorem uap w n f(F:(Nat->Bool)->Nat->Bool)W S L(s:n<=200)(k:S.OK)(a:WL (Qm w f) W (w.heap.size+1) L)(j:At W w.heap.size nz)(d:At W f S)(p:w.heap.size+1<f)(g:Below w.heap.size w W)(l:M.WI n F L S.has)(c:M.left n S.has L.length<=n*(n+1)+n) :
  Calls Tryz.prog 111 #[.pointer (some ⟨w.heap.size+1,0,none⟩)] W (utv w n f F (M.left n S.has L.length)):=by
 have o:=uhG c;have t:n*(n+1)+n<=1048576:=by
  have:n*(n+1)<=200*201:=Nat.mul_le_mul s (by omega);omega
 rcases ujo L with rfl|⟨i,x,rfl⟩
 ·refine(tkN _ _ W a).mono ?_;rintro e r ⟨rfl,rfl⟩;exact⟨_,_,rfl,⟨[],S,k,a,j,d,p,g,.inl ⟨rfl,⟨0,rfl⟩,rfl,l⟩⟩,by rw[ubD d,ubE a];rfl⟩
 rw[List.length_append]at c o ⊢;simp only[List.length_cons,List.length_nil,Nat.zero_add]at c o ⊢;refine(tkS _ _ x i W a (λq=>Nat.lt_irrefl _ q.1) (by omega)).mono ?_;rintro e r ⟨rfl,m,h⟩;have u:=a.lt;have hA':=j.keep (h.block _ (by omega) (λq=>by omega));have hm':=d.keep (h.block _ d.lt (λq=>by omega));refine⟨_,_,rfl,⟨i,S,k,m,hA',hm',p,g.trans (ua1 h g.size (λb q=>by omega)),.inr ⟨x,rfl,rfl,l,c⟩⟩,?_⟩;rw[ubD hm',ubE m];rfl
theorem unL n(F:(Nat->Bool)->Nat->Bool):M.WI n F (List.range n) nz.has:=by
 have h:=M.WI.start n F (List.range n) (λx=>by simp);have e:=funext unY;rw[e];exact h
theorem ui0 n:M.left n nz.has (List.range n).length<=n*(n+1)+n:=by
 unfold M.left;rw[List.length_range];have:n-M.cnt nz.has n<=n:=Nat.sub_le _ _;have:=Nat.mul_le_mul_right (n+1) this;omega
structure upW(n:Nat)(F:(Nat->Bool)->Nat->Bool)(w:World)(e:Ending)(w':World):Prop where
 val:∃S:NS,S.OK/\M.Least n F S.has/\e=.returned (nsv S)
 bel:Below w.heap.size w w'
theorem udR ub uo n uc U p1 p2(F:(Nat->Bool)->Nat->Bool)w(hU:SetN w ub uo n U)(ax:∀i,i<n->(U i).OK)(h0:0<n)(hn:n<=200)(B:M.Mono n F)(hD:∀m m' x,x<n->(∀v,v<n->m' v=(m v||v==x))->∀v,v<n->F m' v=true->F m v=false->(U v).has x=true)(hF:∀x,x<n->∀S:NS,S.OK->∀W,Below w.heap.size w W->Calls Tryz.prog 76 #[.int .i64 (x:Int),.agg #[.int .u64 S.a,.int .u64 S.b,.int .u64 S.c,.int .u64 S.d],p1,p2] W λe W'=>e=.returned (.bool (F S.has x))/\Below W.heap.size W W') :
  Calls Tryz.prog 75 #[.slice (some ⟨ub,uo,none⟩) n uc,.func (.func 76) #[] #[p1,p2]] w (upW n F w):=by
 have HU:=ua hU;have a5:=ua ax;have HM:=ua B;have HD:=ua hD;have HF:Hid (∀x,x<n->∀S:NS,S.OK->∀W,Below w.heap.size w W->Calls Tryz.prog 76 #[.int .i64 (x:Int),.agg #[.int .u64 S.a,.int .u64 S.b,.int .u64 S.c,.int .u64 S.d],p1,p2] W λe W'=>e=.returned (.bool (F S.has x))/\Below W.heap.size W W'):=hF;clear hU ax B hD hF;go_enter Tryz.func75,Tryz.ntmps75;go_wp2;go_loopw [14] (λQ wr=>utt w n Q wr) (λQ _=>n-(intOf Q).toNat)
 case atStart =>
  refine⟨0,Nat.zero_le _,rfl,⟨⟨.slice none 0 0,cN (w.heap.size+1) (by simp) rfl,.inl ⟨rfl,rfl,rfl⟩⟩,qf _ _ 176 (w.heap.size+1) 0 (by simp) (by simp)⟩,(At.new w nz).later (ui _ _),uP w _ _⟩
 case round =>
  obtain⟨k,hk,rfl,N,O,r⟩:=hrel;have h:Hid (WL (λb=>w.heap.size+1<b) wr (w.heap.size+1) (List.range k)):=N;have p:Hid (At wr w.heap.size nz):=O;have g:Hid (Below w.heap.size w wr):=r;clear N O r;by_cases bk:k<n
  ·go_wp2_with (go_at_call 110;refine(ukv _ (w.heap.size+1) k (List.range k) _ h (λq=>Nat.lt_irrefl _ q) (by simp;omega)).mono ?_;rintro e W ⟨⟨v,rfl⟩,hl,hg⟩;have HL':Hid (WL (λb=>w.heap.size+1<b\/wr.heap.size<=b) W (w.heap.size+1) (List.range k++[k])):=hl;have HG:Hid (Grew (λb=>w.heap.size+1<b\/b=w.heap.size+1) wr W):=hg;clear hl hg);go_roundw
   case rel =>
    have l1:=h.lt;refine⟨k+1,by omega,by go_num,?_,p.keep (HG.block _ (by omega) (λq=>by omega)),g.trans (ua1 HG g.size (λb q=>by omega))⟩;rw[List.range_succ];exact HL'.wide (λb q=>by omega)
   case measure=>simp[intOf];omega
  obtain rfl:k=n:=by omega
  obtain⟨V,eV⟩:∃V,wr=V:=⟨_,rfl⟩;subst wr;have lV:=h.lt;have al:Hid (WL (Qm w V.heap.size) (V.alloc (nsc nz)) (w.heap.size+1) (List.range k)):=(h.out.wideN (by rw[List.length_range];exact h0) (λb q1 q2=>⟨q1,by omega⟩)).later (ui V _);have aj:Hid (At (V.alloc (nsc nz)) w.heap.size nz):=p.out.later (ui V _);have an:=ua (At.new V nz);have ak:Hid (Below w.heap.size w (V.alloc (nsc nz))):=g.out.trans ((ui V _).mono g.out.size);go_wp2_with fail;refine(uap w k V.heap.size F _ nz (List.range k) hn NS.OK.zero al aj an lV ak (unL k F) (ui0 k)).mono ?_;rintro e W1 ⟨I,l,rfl,A,H⟩;have J:Hid (lmI w k V.heap.size F I l W1):=A;clear A H;obtain⟨f,aq⟩:∃f,V.heap.size=f:=⟨_,rfl⟩;rw[aq]at J;clear al aj an ak h p g lV;go_wp2;clear aq;go_loopw [8,9] (λI l wr=>lmI w k f F I l wr) (λI l wr=>M.left k (uaZ wr f).has (ua0 wr (w.heap.size+1)+ucs l))
  case atStart=>exact J
  case round =>
   obtain⟨L,S,hS,N,O,B,ai,r,bf⟩:=hrel;have E:Hid S.OK:=hS;have h:Hid (WL (Qm w f) wr (w.heap.size+1) L):=N;have p:Hid (At wr w.heap.size nz):=O;have o:Hid (At wr f S):=B;have g:Hid (Below w.heap.size w wr):=r;obtain⟨m0,m1,m2,m3⟩:=B.cells;have ay:=B.lt;clear hS N O B r J;rcases bf with⟨rfl,⟨xi,rfl⟩,rfl,R⟩|⟨x,rfl,rfl,R,av⟩
   ·have HW:Hid (M.WI k F [] S.has):=R;obtain⟨r0,r1,r2,r3⟩:=p.cells;obtain⟨s0,s1,s2,s3⟩:=p.soft;have lw:=p.lt;clear R;go_wp2;refine bodyPost_ret (v:=nsv S) (by simp[results,Tryz.f75,go_sem,nsv, *]) rfl ?_;exact⟨⟨S,E,HW.done,rfl⟩,ko g w.heap.size S (Nat.le_refl _)⟩
   have HW:Hid (M.WI k F (L++[x]) S.has):=R;have ac:Hid (M.left k S.has (L.length+1)<=k*(k+1)+k):=av;have ae:x<k:=R.all x (by simp);clear R av;by_cases hx:S.has x=true
   ·have HX:Hid (S.has x=true):=hx;clear hx;have bi:=HX;go_wp2_with (first|(go_at_call 33;refine(ub8 S x _ E.out (by omega)).mono ?_;rintro e W2 ⟨rfl,C⟩;have s:Hid (Below wr.heap.size wr W2):=C;obtain⟨c0,c1,c2,c3⟩:=(o.out.later C).cells;clear C)|(go_at_call 111;refine(uap w k f F _ S L hn E.out (h.out.later s.out) (p.later s) (o.later s) ai (g.trans (s.mono g.size)) (HW.skip (.inl HX)) (Nat.le_trans (by unfold M.left;omega) ac)).mono ?_;rintro e W4 ⟨I,l,rfl,A,H⟩;have J:Hid (lmI w k f F I l W4):=A;have Y:Hid (M.left k (uaZ W4 f).has (ua0 W4 (w.heap.size+1)+ucs l)=M.left k S.has L.length):=H;clear A H));go_roundw
    case rel=>exact J.out
    case measure =>
     show M.left k (uaZ W4 f).has (ua0 W4 (w.heap.size+1)+ucs l)<M.left k (uaZ wr f).has (ua0 wr (w.heap.size+1)+1);rw[Y.out,ubD o.out,ubE h.out];unfold M.left;omega
   have HX:Hid (S.has x=false):=(by show _=_;simpa using hx);have bi:S.has x=false:=HX.out;clear hx;by_cases hf:F S.has x=true
   ·have X:Hid (F S.has x=true):=hf;have bg:F S.has x=true:=X.out;clear hf;go_wp2_with (first|(go_at_call 33;refine(ub8 S x _ E.out (by omega)).mono ?_;rintro e W2 ⟨rfl,C⟩;have s:Hid (Below wr.heap.size wr W2):=C;obtain⟨c0,c1,c2,c3⟩:=(o.out.later C).cells;clear C)|(go_at_call 76;refine(HF.out x ae S E.out _ (g.out.trans (s.out.mono g.out.size))).mono ?_;rintro e W3 ⟨rfl,aa⟩;have z:Hid (Below wr.heap.size wr W3):=uf s.out aa;obtain⟨e0,e1,e2,e3⟩:=(o.out.later z.out).cells;obtain⟨d0,d1,d2,d3⟩:=(o.out.later z.out).soft;clear aa)|(go_at_call 108;refine(ubF S x _ E.out (by omega)).mono ?_;rintro e G ⟨⟨t,ht,rfl⟩,au⟩;have ao:Hid (t=S.put x):=ht;have P:Hid (Below wr.heap.size wr G):=uf z.out au;obtain⟨bb,bc,bd,be⟩:=(o.out.later P.out).cells;obtain⟨a7,a8,a9,ba⟩:=(o.out.later P.out).soft;clear au ht));have HT:Hid t.OK:=(by show t.OK;rw[ao.out];exact E.out.put x);have a0:Hid (At (set4 G f t) f t):=(o.out.later P.out).set t;have az:Hid (At (set4 G f t) w.heap.size nz):=(p.out.later P.out).keep (ua2 G f t _ (by omega));have a3:Hid (WL (Qm w f) (set4 G f t) (w.heap.size+1) L):=(h.out.later P.out).on (λb r=>ua2 G f t b (by rcases r with r|r;exact r.2;omega));have a1:Hid (Below w.heap.size w (set4 G f t)):=ko (g.out.trans (P.out.mono g.out.size)) f t (by omega);rw[show(((G.setCell ⟨f,0,none⟩ (.int .u64 t.a)).setCell ⟨f,1,none⟩ (.int .u64 t.b)).setCell ⟨f,2,none⟩ (.int .u64 t.c)).setCell ⟨f,3,none⟩ (.int .u64 t.d)=set4 G f t from rfl];generalize set4 G f t=Z at *;have a4:Hid (M.left k (uaZ wr f).has (ua0 wr (w.heap.size+1)+1)=M.left k S.has (L.length+1)):=(by show _=_;rw[ubD o.out,ubE h.out]);obtain⟨M0,bj⟩:=nm (M.left k (uaZ wr f).has (ua0 wr (w.heap.size+1)+1));clear m0 m1 m2 m3 c0 c1 c2 c3 e0 e1 e2 e3 d0 d1 d2 d3 bb bc bd be a7 a8 a9 ba s z P h p o g ay;go_loopw [44] (λQ wr=>utu w k f x U t L Q wr) (λQ _=>k-(intOf Q).toNat)
    case atStart=>exact⟨0,Nat.zero_le _,rfl,by rw[M.users,List.append_nil];exact a3,az,a0,a1⟩
    case round =>
     obtain⟨j,hj,rfl,N,O,B,r⟩:=hrel;have h:Hid (WL (Qm w f) wr (w.heap.size+1) (L++M.users (λv y=>(U v).has y) x j)):=N;have p:Hid (At wr w.heap.size nz):=O;have ag:=ua B;have g:Hid (Below w.heap.size w wr):=r;have ay:=B.lt;have bn:=N.lt;have bh:(L++M.users (λv y=>(U v).has y) x j).length<=1048576:=by
      have h1:=uhG ac;have h2:=M.users_len (λv y=>(U v).has y) x j;have:k*(k+1)<=200*201:=Nat.mul_le_mul hn (by omega);rw[List.length_append];omega
     clear N O B r;by_cases aw:j<k
     ·obtain⟨x0,x1,x2,x3⟩:=(HU.later g) j aw;have bm:=ud x0;have ap:Hid (U j).OK:=a5 j aw;by_cases T:(U j).has x=true
      ·have ah:Hid ((U j).has x=true):=T;go_wp2_with (first|(go_at_call 33;refine(ub8 (U j) x _ ap (by omega)).mono ?_;rintro e W6 ⟨rfl,ab⟩;have D:Hid (Below wr.heap.size wr W6):=uf (ui wr _) ab;clear ab)|(go_at_call 110;refine(ukv _ (w.heap.size+1) j _ _ (h.later D) (λq=>Nat.lt_irrefl _ q.1) bh).mono ?_;rintro e W7 ⟨⟨v,rfl⟩,hl,hg⟩;have a2:Hid (WL (λb=>Qm w f b\/W6.heap.size<=b) W7 (w.heap.size+1) (L++M.users (λv y=>(U v).has y) x j++[j])):=hl;have af:Hid (Grew (λb=>Qm w f b\/b=w.heap.size+1) W6 W7):=hg;clear hl hg));go_roundw
       case rel =>
        have s6:=D.size;refine⟨j+1,by omega,by go_num,?_,(p.later D).keep (af.block _ (by omega) (λq=>by rcases q with q|q;exact absurd q.1 (by omega);omega)),(ag.later D).keep (af.block _ (by omega) (λq=>by rcases q with q|q;exact q.2 rfl;omega)),(g.trans (D.mono g.size)).trans (ua1 af (Nat.le_trans g.size s6) (λb q=>by rcases q with q|q;have:=q.1;omega;omega))⟩;rw[M.users,if_pos ah.out,<-List.append_assoc];exact a2.wide (λb q=>by rcases q with q|q;exact q;exact⟨by omega,by omega⟩)
       case measure=>simp[intOf];omega
      have bl:(U j).has x=false:=(by simpa using T);have ah:=ua T;clear T;go_wp2_with (go_at_call 33;refine(ub8 (U j) x _ ap (by omega)).mono ?_;rintro e W6 ⟨rfl,ab⟩;have D:Hid (Below wr.heap.size wr W6):=uf (ui wr _) ab;clear ab);go_roundw
      case rel =>
       refine⟨j+1,by omega,by go_num,?_,p.later D,ag.later D,g.trans (D.mono g.size)⟩;rw[M.users,if_neg ah.out,List.append_nil];exact h.later D
      case measure=>simp[intOf];omega
     obtain rfl:j=k:=(by omega);have ad:∀v,v<j->t.has v=(S.has v||v==x):=λv hv=>by rw[ao.out,uke _ _ _ (by omega) (by omega)]
     have a6:=ua (M.WI.mark HM HW X ad (λu T=>((M.users_mem _ x j u).1 T).1) (λv hv q1 q2=>(M.users_mem _ x j v).2 ⟨hv,HD S.has t.has x ae ad v hv q1 q2⟩));have am:Hid (M.left j t.has (L++M.users (λv y=>(U v).has y) x j).length<M.left j S.has (L.length+1)):=by
      show _<_;rw[List.length_append];exact M.left_mark ae HX ad (M.users_len _ x j)
     clear ad;go_wp2_with (go_at_call 111;refine(uap w j f F _ t _ hn HT h p ag ai g a6 (Nat.le_trans (Nat.le_of_lt am) ac)).mono ?_;rintro e W4 ⟨I,l,rfl,A,H⟩;have J:Hid (lmI w j f F I l W4):=A;have Y:Hid (M.left j (uaZ W4 f).has (ua0 W4 (w.heap.size+1)+ucs l)=M.left j t.has (L++M.users (λv y=>(U v).has y) x j).length):=H;clear A H);go_roundw
     case rel=>exact J
     case measure =>
      show M.left j (uaZ W4 f).has (ua0 W4 (w.heap.size+1)+ucs l)<M.left j (uaZ _ f).has (ua0 _ (w.heap.size+1)+1);rw[Y.out];exact a4.out▸am.out
   have X:Hid (F S.has x=false):=(by show _=_;simpa using hf);have bg:F S.has x=false:=X.out;clear hf;go_wp2_with (first|(go_at_call 33;refine(ub8 S x _ E.out (by omega)).mono ?_;rintro e W2 ⟨rfl,C⟩;have s:Hid (Below wr.heap.size wr W2):=C;obtain⟨c0,c1,c2,c3⟩:=(o.out.later C).cells;clear C)|(go_at_call 76;refine(HF.out x ae S E.out _ (g.out.trans (s.out.mono g.out.size))).mono ?_;rintro e W3 ⟨rfl,aa⟩;have z:Hid (Below wr.heap.size wr W3):=uf s.out aa;obtain⟨e0,e1,e2,e3⟩:=(o.out.later z.out).cells;obtain⟨d0,d1,d2,d3⟩:=(o.out.later z.out).soft;clear aa)|(go_at_call 111;refine(uap w k f F _ S L hn E.out (h.out.later z.out) (p.out.later z.out) (o.out.later z.out) ai (g.out.trans (z.out.mono g.out.size)) (HW.out.skip (.inr X.out)) (Nat.le_trans (by unfold M.left;omega) ac.out)).mono ?_;rintro e W4 ⟨I,l,rfl,A,H⟩;have J:Hid (lmI w k f F I l W4):=A;have Y:Hid (M.left k (uaZ W4 f).has (ua0 W4 (w.heap.size+1)+ucs l)=M.left k S.has L.length):=H;clear A H));go_roundw
   case rel=>exact J.out
   case measure =>
    show M.left k (uaZ W4 f).has (ua0 W4 (w.heap.size+1)+ucs l)<M.left k (uaZ wr f).has (ua0 wr (w.heap.size+1)+1);rw[Y.out,ubD o.out,ubE h.out];unfold M.left;omega
end Go.Proofs.YtimfigongapdnaaGreat
