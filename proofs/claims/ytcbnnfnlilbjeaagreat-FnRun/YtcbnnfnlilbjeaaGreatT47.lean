import Derived.Test.YtcbnnfnlilbjeaaGreatT46
import Derived.Deep.Cut
import Derived.Deep.CutRange
import Derived.Test.YtcbnnfnlilbjeaaGreatT27
set_option linter.unusedVariables false
set_option linter.unusedSimpArgs false
namespace Go.Proofs.YtcbnnfnlilbjeaaGreat
section
open Go.RowKit
open M (OpD NodeD Gr)
def nlAt(l:List NL)(i:Nat):NL:=l.getD i default
def bdSet(l:List NL)(i:Nat)(D:List OpD):List NL:=l.set i ⟨(nlAt l i).nm,(nlAt l i).has,D⟩
def loopG(t:Tp)(i:Nat)(rs ls:List NL):(List NL×List NL)×Nat :=
 let k:=t.v i%5
 let a:=t.v (t.n i)%rs.length
 let b:=t.v (t.n (t.n i))%rs.length
 let j:=t.n (t.n (t.n i))
 let x:=(nlAt rs a).bd
 if k=0 then ((bdSet rs a (binD 5 x (leafD 2 (b:Int))),ls),j)
 else if k=1 then ((bdSet rs a (binD 4 (unD 7 (leafD 2 (b:Int))) x),ls),j)
 else if k=2 then ((bdSet rs a (unD 6 x),ls),j)
 else if k=3∧0<ls.length then
  let m:=b%ls.length
  ((bdSet rs a (binD 5 x (leafD 3 (m:Int))),ls.set m ⟨(nlAt ls m).nm,true,binD 4 (leafD 0 0) (leafD 2 (a:Int))⟩),j)
 else ((bdSet rs a (binD 4 (unD 6 (setD (oneD 97))) (leafD 2 (b:Int))),ls),j)
def DrX(t:Tp)(R:Nat)(w0:World)(g:(List NL×List NL)×Nat)(w:World)(e:Ending)(w':World):Prop :=
 ∃rv lv G rs ls,e=.returned (.agg #[rv,lv])∧GrP w0 G w' rv lv rs ls∧rs.map (·.d)=g.1.1∧ls.map (·.d)=g.1.2∧RdA t R w' g.2∧Keep (fun b=>b=R∨w0.heap.size≤b) w w'
theorem nlAt_map{l:List NC}{i:Nat}{x:NC}(h:l[i]? = some x):nlAt (l.map (·.d)) i=x.d:=by
 unfold nlAt;rw[List.getD_eq_getElem?_getD,List.getElem?_map,h];rfl
theorem lp_rule{gb rb:Nat}{w0 W V:World}{G:Nat→Nat}{g n c a:Nat}{lv:Value}{rs ls:List NC}{x:NC}{ba:Option Addr}{bc:Nat}{D:List OpD}(h:GVar gb w0 G W (.slice (some ⟨g,0,none⟩) n c) lv rs ls)(k:Keep (fun _=>False) W V)(hb:BodP (New W V) V (.slice ba D.length bc) D)(hx:rs[a]? = some x)(hg:Tg G W 0 g)(hrb:rb<W.heap.size∧G rb=3) :
  ∃G',GVar gb w0 G' (V.setCell ⟨g,a*2+1,none⟩ (.slice ba D.length bc)) (.slice (some ⟨g,0,none⟩) n c) lv (rs.set a ⟨⟨x.d.nm,x.d.has,D⟩,x.na,x.nc,ba,bc⟩) ls∧G' rb=3:=by
 obtain⟨h1,h2⟩:=h.tagged k hb (4+2*a);have hz:=k.size;refine⟨_,h1.putR hx (by omega) (by simp[ncR]) ⟨by have:=hg.1;omega,by rw[tagN_old hg.1];exact hg.2⟩ (h1.gr.rn x (List.mem_of_getElem? hx)) h2,by rw[tagN_old hrb.1];exact hrb.2⟩
theorem lp_label{gb rb:Nat}{w0 W V:World}{G:Nat→Nat}{g n c a:Nat}{rv:Value}{rs ls:List NC}{x:NC}{ba:Option Addr}{bc:Nat}{D:List OpD}(h:GVar gb w0 G W rv (.slice (some ⟨g,0,none⟩) n c) rs ls)(k:Keep (fun _=>False) W V)(hb:BodP (New W V) V (.slice ba D.length bc) D)(hx:ls[a]? = some x)(hg:Tg G W 1 g)(hrb:rb<W.heap.size∧G rb=3) :
  ∃G',GVar gb w0 G' (V.setCell ⟨g,a*3+2,none⟩ (.slice ba D.length bc)) rv (.slice (some ⟨g,0,none⟩) n c) rs (ls.set a ⟨⟨x.d.nm,x.d.has,D⟩,x.na,x.nc,ba,bc⟩)∧G' rb=3:=by
 obtain⟨h1,h2⟩:=h.tagged k hb (5+2*a);have hz:=k.size;refine⟨_,h1.putL hx (by omega) (by simp[ncL]) ⟨by have:=hg.1;omega,by rw[tagN_old hg.1];exact hg.2⟩ (h1.gr.ln x (List.mem_of_getElem? hx)) h2,by rw[tagN_old hrb.1];exact hrb.2⟩
structure LpS(t:Tp)(R:Nat)(w0 w:World)(gb:Nat)(G:Nat→Nat)(W:World)(rv lv:Value)(rs ls:List NC)(i:Nat):Prop where
 gv:GVar gb w0 G W rv lv rs ls
 tw:Two (gb+1) W
 tg:G (gb+1)=3
 rd:RdA t R W i
 kp:Keep (fun b=>b=R∨w0.heap.size≤b) w W
theorem LpS.on{t:Tp}{R:Nat}{w0 w:World}{gb:Nat}{G:Nat→Nat}{W V:World}{rv lv:Value}{rs ls:List NC}{i j:Nat}(h:LpS t R w0 w gb G W rv lv rs ls i)(k:RdOn t R j W V)(hR:R<w0.heap.size∧w0.heap.size≤gb):LpS t R w0 w gb (tagN G W 3) V rv lv rs ls j :=
 ⟨h.gv.later k.2 (fun b e=>⟨by omega,by omega⟩) 3,h.tw.keep k.2 (fun e=>by omega),by rw[tagN_old (lt_of_cell h.tw.1)];exact h.tg,k.1,h.kp.trans (k.2.mono (fun b e=>.inl e))⟩
theorem LpS.rule{t:Tp}{R:Nat}{w0 w:World}{gb:Nat}{G:Nat→Nat}{W V:World}{g n c a:Nat}{lv:Value}{rs ls:List NC}{i:Nat}{x:NC}{ba:Option Addr}{bc:Nat}{D:List OpD}(h:LpS t R w0 w gb G W (.slice (some ⟨g,0,none⟩) n c) lv rs ls i)(hR:R<w0.heap.size∧w0.heap.size≤gb)(k:Keep (fun _=>False) W V)(hb:BodP (New W V) V (.slice ba D.length bc) D)(hx:rs[a]? = some x)(hg:Tg G W 0 g) :
  ∃G',LpS t R w0 w gb G' (V.setCell ⟨g,a*2+1,none⟩ (.slice ba D.length bc)) (.slice (some ⟨g,0,none⟩) n c) lv (rs.set a ⟨⟨x.d.nm,x.d.has,D⟩,x.na,x.nc,ba,bc⟩) ls i:=by
 obtain⟨G',h1,h2⟩:=lp_rule h.gv k hb hx hg ⟨lt_of_cell h.tw.1,h.tg⟩;have hg0:w0.heap.size≤g:=h.gv.gr.new g (by rw[hg.2];omega)
 have hne:gb+1≠g:=fun e=>by have h3:=hg.2;rw[←e,h.tg]at h3;omega
 have hs:Keep (fun b=>b=g) V (V.setCell ⟨g,a*2+1,none⟩ (.slice ba D.length bc)):=Keep.setCell _ _ _ rfl
 exact⟨G',h1,(h.tw.keep k (fun e=>e)).keep hs hne,h2,(h.rd.keep k (fun _ e=>e.elim)).keep hs (fun b e=>by omega),(h.kp.trans (k.mono (fun _ e=>e.elim))).trans (hs.mono (fun b e=>.inr (by omega)))⟩
theorem LpS.label{t:Tp}{R:Nat}{w0 w:World}{gb:Nat}{G:Nat→Nat}{W V:World}{g n c a:Nat}{rv:Value}{rs ls:List NC}{i:Nat}{x:NC}{ba:Option Addr}{bc:Nat}{D:List OpD}(h:LpS t R w0 w gb G W rv (.slice (some ⟨g,0,none⟩) n c) rs ls i)(hR:R<w0.heap.size∧w0.heap.size≤gb)(k:Keep (fun _=>False) W V)(hb:BodP (New W V) V (.slice ba D.length bc) D)(hx:ls[a]? = some x)(hg:Tg G W 1 g) :
  ∃G',LpS t R w0 w gb G' (V.setCell ⟨g,a*3+2,none⟩ (.slice ba D.length bc)) rv (.slice (some ⟨g,0,none⟩) n c) rs (ls.set a ⟨⟨x.d.nm,x.d.has,D⟩,x.na,x.nc,ba,bc⟩) i:=by
 obtain⟨G',h1,h2⟩:=lp_label h.gv k hb hx hg ⟨lt_of_cell h.tw.1,h.tg⟩;have hg0:w0.heap.size≤g:=h.gv.gr.new g (by rw[hg.2];omega)
 have hne:gb+1≠g:=fun e=>by have h3:=hg.2;rw[←e,h.tg]at h3;omega
 have hs:Keep (fun b=>b=g) V (V.setCell ⟨g,a*3+2,none⟩ (.slice ba D.length bc)):=Keep.setCell _ _ _ rfl
 exact⟨G',h1,(h.tw.keep k (fun e=>e)).keep hs hne,h2,(h.rd.keep k (fun _ e=>e.elim)).keep hs (fun b e=>by omega),(h.kp.trans (k.mono (fun _ e=>e.elim))).trans (hs.mono (fun b e=>.inr (by omega)))⟩
theorem LpS.putL{t:Tp}{R:Nat}{w0 w:World}{gb:Nat}{G:Nat→Nat}{W:World}{g n c a j:Nat}{rv u:Value}{rs ls:List NC}{i:Nat}{x y:NC}(h:LpS t R w0 w gb G W rv (.slice (some ⟨g,0,none⟩) n c) rs ls i)(hR:R<w0.heap.size∧w0.heap.size≤gb)(hx:ls[a]? = some x)(hg:Tg G W 1 g)(hj:j<3)(hy:ncL y=(ncL x).set j u)(hn:Ints (Tg G W 2) .u8 W y.na y.d.nm.length (lf y.d.nm))(hb:BodP (Tg G W (5+2*a)) W (.slice y.ba y.d.bd.length y.bc) y.d.bd) :
  LpS t R w0 w gb G (W.setCell ⟨g,a*3+j,none⟩ u) rv (.slice (some ⟨g,0,none⟩) n c) rs (ls.set a y) i:=by
 have hg0:w0.heap.size≤g:=h.gv.gr.new g (by rw[hg.2];omega)
 have hne:gb+1≠g:=fun e=>by have h3:=hg.2;rw[←e,h.tg]at h3;omega
 have hs:Keep (fun b=>b=g) W (W.setCell ⟨g,a*3+j,none⟩ u):=Keep.setCell _ _ _ rfl
 exact⟨h.gv.putL hx hj hy hg hn hb,h.tw.keep hs hne,h.tg,h.rd.keep hs (fun b e=>by omega),h.kp.trans (hs.mono (fun b e=>.inr (by omega)))⟩
theorem LpS.putR{t:Tp}{R:Nat}{w0 w:World}{gb:Nat}{G:Nat→Nat}{W:World}{g n c a j:Nat}{lv u:Value}{rs ls:List NC}{i:Nat}{x y:NC}(h:LpS t R w0 w gb G W (.slice (some ⟨g,0,none⟩) n c) lv rs ls i)(hR:R<w0.heap.size∧w0.heap.size≤gb)(hx:rs[a]? = some x)(hg:Tg G W 0 g)(hj:j<2)(hy:ncR y=(ncR x).set j u)(hn:Ints (Tg G W 2) .u8 W y.na y.d.nm.length (lf y.d.nm))(hb:BodP (Tg G W (4+2*a)) W (.slice y.ba y.d.bd.length y.bc) y.d.bd) :
  LpS t R w0 w gb G (W.setCell ⟨g,a*2+j,none⟩ u) (.slice (some ⟨g,0,none⟩) n c) lv (rs.set a y) ls i:=by
 have hg0:w0.heap.size≤g:=h.gv.gr.new g (by rw[hg.2];omega)
 have hne:gb+1≠g:=fun e=>by have h3:=hg.2;rw[←e,h.tg]at h3;omega
 have hs:Keep (fun b=>b=g) W (W.setCell ⟨g,a*2+j,none⟩ u):=Keep.setCell _ _ _ rfl
 exact⟨h.gv.putR hx hj hy hg hn hb,h.tw.keep hs hne,h.tg,h.rd.keep hs (fun b e=>by omega),h.kp.trans (hs.mono (fun b e=>.inr (by omega)))⟩
theorem LpS.fin{t:Tp}{R:Nat}{w0 w:World}{gb:Nat}{G:Nat→Nat}{W:World}{rv lv:Value}{rs ls:List NC}{i:Nat}{p:(List NL×List NL)×Nat}(h:LpS t R w0 w gb G W rv lv rs ls i)(hR:R<w0.heap.size∧w0.heap.size≤gb)(hp:((rs.map (·.d),ls.map (·.d)),i)=p):DrX t R w0 p w (.returned (.agg #[rv,lv])) ((W.setCell ⟨gb+1,0,none⟩ rv).setCell ⟨gb+1,1,none⟩ lv):=by
 subst hp;have hs:Keep (fun b=>b=gb+1) W ((W.setCell ⟨gb+1,0,none⟩ rv).setCell ⟨gb+1,1,none⟩ lv):=(Keep.setCell (C:=fun b=>b=gb+1) W ⟨gb+1,0,none⟩ rv rfl).trans (Keep.setCell (C:=fun b=>b=gb+1) _ ⟨gb+1,1,none⟩ lv rfl)
 exact⟨rv,lv,G,rs,ls,rfl,gvar_out h.gv h.tg,rfl,rfl,h.rd.keep hs (fun b e=>by omega),h.kp.trans (hs.mono (fun b e=>.inr (by omega)))⟩
theorem lp_start{t:Tp}{R:Nat}{w0 w:World}{G:Nat→Nat}{rv lv:Value}{rs ls:List NC}{i:Nat}(h:GrP w0 G w rv lv rs ls)(hz:w0.heap.size≤w.heap.size)(hr:RdA t R w i)(hR:R<w0.heap.size):∃G',LpS t R w0 w w.heap.size G' ((w.alloc (.cells #[rv,lv] 26)).alloc (.cells #[.slice none 0 0,.slice none 0 0] 26)) rv lv rs ls i:=by
 have h1:=gvar_box h hz (t:=26);have h2:=h1.later (Keep.alloc (fun _=>False) _ (.cells #[.slice none 0 0,.slice none 0 0] 26)) (fun _ e=>e.elim) 3
 have e1:(w.alloc (.cells #[rv,lv] 26)).heap.size=w.heap.size+1:=by simp
 have t2:=two_new (w.alloc (.cells #[rv,lv] 26)) (t:=26);rw[e1]at t2;have kk:Keep (fun _=>False) w ((w.alloc (.cells #[rv,lv] 26)).alloc (.cells #[.slice none 0 0,.slice none 0 0] 26)):=(Keep.alloc _ _ _).trans (Keep.alloc _ _ _)
 exact⟨_,h2,t2,tagN_new (by omega),hr.keep kk (fun _ e=>e.elim),kk.mono (fun _ e=>e.elim)⟩
theorem enter57(args:Array Value)(w:World):(callFunc 57 args).run Tryz.prog w=.ok (.enter 57 args) w:=by
 simp[callFunc,Tryz.func57,Tryz.f57,go_sem]
theorem enter59(args:Array Value)(w:World):(callFunc 59 args).run Tryz.prog w=.ok (.enter 59 args) w:=by
 simp[callFunc,Tryz.func59,Tryz.f59,go_sem]
theorem enter60(args:Array Value)(w:World):(callFunc 60 args).run Tryz.prog w=.ok (.enter 60 args) w:=by
 simp[callFunc,Tryz.func60,Tryz.f60,go_sem]
theorem enter61(args:Array Value)(w:World):(callFunc 61 args).run Tryz.prog w=.ok (.enter 61 args) w:=by
 simp[callFunc,Tryz.func61,Tryz.f61,go_sem]
theorem enter29(args:Array Value)(w:World):(callFunc 29 args).run Tryz.prog w=.ok (.enter 29 args) w:=by
 simp[callFunc,Tryz.func29,Tryz.f29,go_sem]
end
section
open Go.RowKit
open M (OpD NodeD Gr)
def dset(D:List OpD)(p:Nat)(f:OpD→OpD):List OpD:=D.set p (f (df D p))
def spoilB(t:Tp)(i:Nat)(D:List OpD):List OpD×Nat :=
 let k:=t.v i%10
 let p:=t.v (t.n i)%D.length
 let j:=t.n (t.n i)
 if k=0 then (dset D p (fun o=>{ o with kind:=8 }),j)
 else if k=1 then (dset D p (fun o=>{ o with kind:=-1 }),j)
 else if k=2 then (dset D p (fun o=>{ o with kind:=((t.v j%8:Nat):Int) }),t.n j)
 else if k=3 then (dset D p (fun o=>{ o with arg:=wrap64 (o.arg+1) }),j)
 else if k=4 then (dset D p (fun o=>{ o with arg:=-1 }),j)
 else if k=5 then (dset D p (fun o=>{ o with sl:=o.sl+1,set:=fun i=>if i=o.sl then 7 else o.set i }),j)
 else if k=6 then (dset D p (fun o=>{ o with sl:=4,set:=lf [5,6,7,9] }),j)
 else if k=7 then (D.take (D.length-1),j)
 else if k=8 then (D++[opd 4 0],j)
 else (D++[opd 0 0],j)
theorem Bod.put{P:Nat→Prop}{L:Nat→Nat}{w:World}{g n c p j:Nat}{l:List OC}{x y:OC}{u:Value}(h:Bod P L w (.slice (some ⟨g,0,none⟩) n c) l)(hx:l[p]? = some x)(hj:j<3)(hy:ocv y=(ocv x).set j u)(hs:OwnC (fun b=>P b∧L b=p+1) w (.slice y.a y.d.sl y.c) 1 y.d.sl (intVs .i64 y.d.set y.d.sl)) :
  Bod P L (w.setCell ⟨g,p*3+j,none⟩ u) (.slice (some ⟨g,0,none⟩) n c) (l.set p y):=by
 have hp:=(List.getElem?_eq_some_iff.1 hx).1;have hg:P g∧L g=0:=by
  rcases h.own with⟨e,_⟩|⟨g',cap,e,hq,_⟩
  ·cases e
  ·cases e;exact hq
 have hn:n=l.length:=by
  rcases h.own with⟨e,_⟩|⟨g',cap,e,hq,_⟩
  ·cases e
  ·injection e
 have st:∀i,Stay (fun b=>P b∧L b=i+1) w (w.setCell ⟨g,p*3+j,none⟩ u):=fun i b hb=>Below.heap_setCell _ _ _ _ (fun e=>by have e':b=g:=e;have h1:=hb.2;rw[e',hg.2]at h1;omega)
 refine⟨?_,fun i z hz=>?_⟩
 ·have ho:=h.own
  rw[hn]at ho ⊢;have:=OwnC.put ho (j:=p*3+j) (by rw[cellsO_len];omega) u
  unfold cellsO at this;rw[flat_set ocv 3 ocv_len l p j x y u hx hj hy]at this;rw[List.length_set];exact this
 ·rcases getElem?_set' hx hz with⟨rfl,rfl⟩|⟨_,q⟩
  ·exact hs.on (st _)
  ·exact (h.sets i z q).on (st i)
def SpIs(t:Tp)(R:Nat)(P:Nat→Prop)(p:List OpD×Nat)(w:World)(e:Ending)(w':World):Prop :=
 ∃a c,e=.returned (.slice a p.1.length c)∧BodP (fun b=>P b∨New w w' b) w' (.slice a p.1.length c) p.1∧RdA t R w' p.2∧Keep (fun b=>b=R∨P b) w w'
theorem map_dset{l:List OC}{p:Nat}{x:OC}(f:OpD→OpD)(y:OC)(hx:l[p]? = some x)(hy:y.d=f x.d):(l.set p y).map (·.d)=dset (l.map (·.d)) p f:=by
 unfold dset;rw[List.map_set,df_map hx,hy]
theorem sp_put{t:Tp}{R i:Nat}{P:Nat→Prop}{L:Nat→Nat}{w W:World}{g n c p j:Nat}{l:List OC}{x y:OC}{u:Value}{D:List OpD}(f:OpD→OpD)(hon:RdOn t R i w W)(hP:∀b,P b→b<w.heap.size∧R<b)(h:Bod P L w (.slice (some ⟨g,0,none⟩) n c) l)(hD:l.map (·.d)=D)(hn:D.length=n)(hx:l[p]? = some x)(hj:j<3)(hy:ocv y=(ocv x).set j u)(hyd:y.d=f x.d)(hs:OwnC (fun b=>P b∧L b=p+1) W (.slice y.a y.d.sl y.c) 1 y.d.sl (intVs .i64 y.d.set y.d.sl)) :
  SpIs t R P (dset D p f,i) w (.returned (.slice (some ⟨g,0,none⟩) n c)) (W.setCell ⟨g,p*3+j,none⟩ u):=by
 have hg:P g:=by
  rcases h.own with⟨e,_⟩|⟨g',cap,e,hq,_⟩
  ·cases e
  ·cases e;exact hq.1
 have hW:Bod P L W (.slice (some ⟨g,0,none⟩) n c) l:=h.on (fun b hb=>hon.2.block b (hP b hb).1 (fun e=>by have:=(hP b hb).2;omega))
 have hlen:(dset D p f).length=n:=by unfold dset;rw[List.length_set];exact hn
 refine⟨some ⟨g,0,none⟩,c,by rw[hlen],?_,hon.1.keep (Keep.setCell (C:=fun b=>b=g) _ _ _ rfl) (fun b e=>by have:=(hP g hg).2;omega),(hon.2.mono (fun b e=>.inl e)).trans (Keep.setCell _ _ _ (.inr hg))⟩
 rw[hlen];exact⟨L,_,(hW.put hx hj hy hs).wide (fun b hb=>⟨.inl hb,rfl⟩),by rw[map_dset f y hx hyd,hD]⟩
theorem sp_snoc{t:Tp}{R i:Nat}{P:Nat→Prop}{L:Nat→Nat}{w W W2 W4:World}{v v4:Value}{l:List OC}{D:List OpD}{n:Nat}(k:Int)(hon:RdOn t R i w W)(hP:∀b,P b→b<w.heap.size∧R<b)(h:Bod P L w v l)(hD:l.map (·.d)=D)(hn:l.length=n)(k2:Keep (fun _=>False) W W2)
  (own:OwnC (fun b=>(P b∧L b=0)∨W2.heap.size≤b) W4 v4 3 (n+1) (cellsO l++cellsO [⟨opd k 0,none,0⟩])) (g4:Grew (fun b=>P b∧L b=0) W2 W4):SpIs t R P (D++[opd k 0],i) w (.returned v4) W4:=by
 have hW:Bod P L W2 v l:=(h.on (fun b hb=>hon.2.block b (hP b hb).1 (fun e=>by have:=(hP b hb).2;omega))).on (fun b hb=>k2.block b (by have:=(hP b hb).1;have:=hon.2.size;omega) (fun q=>q))
 have hlen:(D++[opd k 0]).length=n+1:=by rw[←hD,←hn];simp
 have z1:=hon.2.size;have z2:=k2.size;have z4:=g4.size;obtain⟨a,c,rfl⟩:=own_shape own;refine⟨a,c,by rw[hlen],?_,(hon.1.keep k2 (fun _ q=>q.elim)).keep g4.kept (fun b q=>(hP b q.1).2),?_⟩
 ·rw[hlen]
  refine⟨fun b=>if b<W2.heap.size then L b else 0,l++[⟨opd k 0,none,0⟩],⟨?_,fun j x hx=>?_⟩,by rw[List.map_append,hD];rfl⟩
  ·have e1:(l++[(⟨opd k 0,none,0⟩:OC)]).length=n+1:=by rw[←hn];simp
   have e2:cellsO (l++[⟨opd k 0,none,0⟩])=cellsO l++cellsO [⟨opd k 0,none,0⟩]:=by simp[cellsO]
   rw[e1,e2];rcases own with⟨_,q,_⟩|⟨g,cap,e,hq,h3,h4,h5,h6⟩
   ·omega
   refine .inr ⟨g,cap,e,?_,h3,h4,h5,h6⟩;have hg:g<W4.heap.size:=by
    have hlen:0<(cellsO l++cellsO [(⟨opd k 0,none,0⟩:OC)]).length:=by rw[h3];omega
    have h:=h5 0 hlen;rw[List.getElem?_eq_getElem hlen]at h;exact lt_of_cell h
   rcases hq with q | q
   ·exact⟨.inl q.1,by simp only[if_pos (show g<W2.heap.size by have:=(hP g q.1).1;omega)];exact q.2⟩
   ·exact⟨.inr ⟨by omega,hg⟩,if_neg (by omega)⟩
  ·by_cases e:j<l.length
   ·rw[List.getElem?_append_left e]at hx
    refine ownC_wide ((hW.sets j x hx).on (fun b hb=>g4.block b (by have:=(hP b hb.1).1;omega) (fun q=>by have:=hb.2;have:=q.2;omega))) (fun b hb=>⟨.inl hb.1,?_⟩)
    simp only[if_pos (show b<W2.heap.size by have:=(hP b hb.1).1;omega)]
    exact hb.2
   ·rw[List.getElem?_append_right (by omega)]at hx
    have hj:j-l.length=0:=by
     have:=(List.getElem?_eq_some_iff.1 hx).1;simp at this;omega
    rw[hj]at hx;simp at hx;subst hx;exact .inl ⟨rfl,rfl,rfl⟩
 ·exact ((hon.2.mono (fun b e=>.inl e)).trans (k2.mono (fun _ q=>q.elim))).trans (g4.kept.mono (fun b q=>.inr q.1))
theorem sp_set{t:Tp}{R i:Nat}{P:Nat→Prop}{L:Nat→Nat}{w W W4:World}{g n c p:Nat}{l:List OC}{x y:OC}{D:List OpD}(f:OpD→OpD)(hon:RdOn t R i w W)(hP:∀b,P b→b<w.heap.size∧R<b)(h:Bod P L w (.slice (some ⟨g,0,none⟩) n c) l)(hD:l.map (·.d)=D)(hn:D.length=n)(hx:l[p]? = some x)(hy:y.d.kind=x.d.kind∧y.d.arg=x.d.arg)(hyd:y.d=f x.d)
  (k:Keep (fun b=>P b∧L b=p+1) W W4) (own:OwnC (fun b=>(P b∧L b=p+1)∨(W.heap.size≤b∧b<W4.heap.size)) W4 (.slice y.a y.d.sl y.c) 1 y.d.sl (intVs .i64 y.d.set y.d.sl)) :
  SpIs t R P (dset D p f,i) w (.returned (.slice (some ⟨g,0,none⟩) n c)) (W4.setCell ⟨g,p*3+1,none⟩ (.slice y.a y.d.sl y.c)):=by
 have hg:P g∧L g=0:=by
  rcases h.own with⟨e,_⟩|⟨g',cap,e,hq,_⟩
  ·cases e
  ·cases e;exact hq
 have z1:=hon.2.size;have z4:=k.size;have hW:Bod P L W (.slice (some ⟨g,0,none⟩) n c) l:=h.on (fun b hb=>hon.2.block b (hP b hb).1 (fun e=>by have:=(hP b hb).2;omega))
 have hlen:(dset D p f).length=n:=by unfold dset;rw[List.length_set];exact hn
 have hll:l.length=n:=by rw[←hn,←hD,List.length_map]
 have hp:=(List.getElem?_eq_some_iff.1 hx).1;have old:∀b,P b→b<W.heap.size:=fun b hb=>by have:=(hP b hb).1;omega
 have far:∀b,P b→L b≠p+1→W4.heap[b]? = W.heap[b]?:=fun b hb hl=>k.block b (old b hb) (fun q=>hl q.2)
 refine⟨some ⟨g,0,none⟩,c,by rw[hlen],?_,(hon.1.keep k (fun b q=>(hP b q.1).2)).keep (Keep.setCell (C:=fun b=>b=g) _ _ _ rfl) (fun b e=>by have:=(hP g hg.1).2;omega),((hon.2.mono (fun b e=>.inl e)).trans (k.mono (fun b q=>.inr q.1))).trans (Keep.setCell _ _ _ (.inr hg.1))⟩
 rw[hlen];refine⟨fun b=>if b<W.heap.size then L b else p+1,l.set p y,⟨?_,fun j z hz=>?_⟩,by rw[map_dset f y hx hyd,hD]⟩
 ·have ho:=hW.own.on (w':=W4) (fun b hb=>far b hb.1 (by have:=hb.2;omega))
  rw[hll]at ho;have ho2:=OwnC.put ho (j:=p*3+1) (by rw[cellsO_len];omega) (.slice y.a y.d.sl y.c)
  unfold cellsO at ho2;rw[flat_set ocv 3 ocv_len l p 1 x y _ hx (by omega) (by simp[ocv,hy.1,hy.2])]at ho2
  rw[List.length_set,hll];refine ownC_wide ho2 (fun b hb=>⟨.inl hb.1,?_⟩)
  simp only[if_pos (old b hb.1)];exact hb.2
 ·rcases getElem?_set' hx hz with⟨rfl,rfl⟩|⟨hne,q⟩
  ·refine ownC_wide (own.on (fun b hb=>Below.heap_setCell _ _ _ _ (fun e=>?_))) (fun b hb=>?_)
   ·have e':b=g:=e
    rcases hb with hb | hb
    ·have h1:=hb.2;rw[e',hg.2]at h1;omega
    ·have h1:=old g hg.1;omega
   ·rcases hb with hb | hb
    ·exact⟨.inl hb.1,by simp only[if_pos (old b hb.1)];exact hb.2⟩
    ·exact⟨.inr ⟨by omega,by rw[size_set];exact hb.2⟩,if_neg (by omega)⟩
  ·refine ownC_wide (((hW.sets j z q).on (w':=W4) (fun b hb=>far b hb.1 (by have:=hb.2;omega))).on (fun b hb=>Below.heap_setCell _ _ _ _ (fun e=>?_))) (fun b hb=>⟨.inl hb.1,?_⟩)
   ·have e':b=g:=e
    have h1:=hb.2;rw[e',hg.2]at h1;omega
   ·simp only[if_pos (old b hb.1)]
    exact hb.2
theorem sp_take{t:Tp}{R i:Nat}{P:Nat→Prop}{L:Nat→Nat}{w W:World}{a:Option Addr}{n c m:Nat}{l:List OC}{D:List OpD}(hon:RdOn t R i w W)(hP:∀b,P b→b<w.heap.size∧R<b)(h:Bod P L w (.slice a n c) l)(hD:l.map (·.d)=D)(hn:D.length=n)(hm:m≤n):SpIs t R P (D.take m,i) w (.returned (.slice a m c)) W:=by
 have hll:l.length=n:=by rw[←hn,←hD,List.length_map]
 have hW:Bod P L W (.slice a n c) l:=h.on (fun b hb=>hon.2.block b (hP b hb).1 (fun e=>by have:=(hP b hb).2;omega))
 have hlen:(D.take m).length=m:=by rw[List.length_take,hn];omega
 refine⟨a,c,by rw[hlen],?_,hon.1,hon.2.mono (fun b e=>.inl e)⟩
 rw[hlen];refine⟨L,l.take m,⟨?_,fun j x hx=>?_⟩,by rw[List.map_take,hD]⟩
 ·have ho:=hW.own
  rw[hll]at ho;have h2:=own_take ho hm;unfold cellsO at h2 ⊢;rw[←flat_take ocv 3 ocv_len l m]at h2;rw[List.length_take,hll,Nat.min_eq_left hm];exact ownC_wide h2 (fun b hb=>⟨.inl hb.1,hb.2⟩)
 ·have hj:j<m:=by
   have:=(List.getElem?_eq_some_iff.1 hx).1;rw[List.length_take]at this;omega
  rw[List.getElem?_take_of_lt hj]at hx;exact ownC_wide (hW.sets j x hx) (fun b hb=>⟨.inl hb.1,hb.2⟩)
theorem own_in{Q:Nat→Prop}{W W4:World}{v:Value}{m:Nat}{S:Nat→Int}{o:Obj}(h:OwnC (fun b=>Q b∨(W.alloc o).heap.size≤b) W4 v 1 m (intVs .i64 S m))(hm:0<m):OwnC (fun b=>Q b∨(W.heap.size≤b∧b<W4.heap.size)) W4 v 1 m (intVs .i64 S m):=by
 rcases h with⟨_,q,_⟩|⟨g,cap,e,hq,h3,h4,h5,h6⟩
 ·omega
 refine .inr ⟨g,cap,e,?_,h3,h4,h5,h6⟩;have hg:g<W4.heap.size:=by
  have hl:0<(intVs .i64 S m).length:=by rw[intVs_len];exact hm
  have h:=h5 0 hl;rw[List.getElem?_eq_getElem hl]at h;exact lt_of_cell h
 rcases hq with q | q
 ·exact .inl q
 ·have:(W.alloc o).heap.size=W.heap.size+1:=by simp
  exact .inr ⟨by omega,hg⟩
theorem own_four(W:World){Q:Nat→Prop}:OwnC (fun b=>Q b∨(W.heap.size≤b∧b<(W.alloc (.cells #[.int .i64 5,.int .i64 6,.int .i64 7,.int .i64 9] 3)).heap.size)) (W.alloc (.cells #[.int .i64 5,.int .i64 6,.int .i64 7,.int .i64 9] 3)) (.slice (some ⟨W.heap.size,0,none⟩) 4 4) 1 4 (intVs .i64 (lf [5,6,7,9]) 4):=by
 have hb:=World.alloc_heap_new W (.cells #[.int .i64 5,.int .i64 6,.int .i64 7,.int .i64 9] 3);refine .inr ⟨W.heap.size,4,rfl,.inr ⟨Nat.le_refl _,by simp⟩,rfl,Nat.le_refl _,fun j hj=>?_,fun j hj=>⟨?_,?_⟩⟩
 ·simp only[World.cell?,hb]
  match j,hj with
  |0,_=>rfl
  |1,_=>rfl
  |2,_=>rfl
  |3,_=>rfl
 ·simp only[World.cell?,hb]
  match j,hj with
  |0,_=>rfl
  |1,_=>rfl
  |2,_=>rfl
  |3,_=>rfl
 ·simp only[World.frozen?,hb]
  rfl
theorem own_set1{Q:Nat→Prop}{w:World}{a:Option Addr}{n c:Nat}{S:Nat→Int}(h:OwnC Q w (.slice a n c) 1 n (intVs .i64 S n)):intVs .i64 S n++[.int .i64 7]=intVs .i64 (fun i=>if i=n then 7 else S i) (n+1):=by
 unfold intVs;rw[List.range_succ,List.map_append]
 congr 1
 ·apply List.map_congr_left
  intro i hi;have:=List.mem_range.1 hi;show _=Value.int .i64 (if i=n then 7 else S i)
  rw[if_neg (by omega)]
 ·simp
set_option maxRecDepth 100000 in
set_option maxHeartbeats 20000000 in
theorem l2spoilBody_any(t:Tp)(R i:Nat)(P:Nat→Prop)(a:Option Addr)(c:Nat)(D:List OpD)(w:World)(hr:RdA t R w i)(hB:BodP P w (.slice a D.length c) D)(hP:∀b,P b→b<w.heap.size∧R<b)(hne:0<D.length)(hlen:D.length≤1048576)(hsl:∀x∈D,x.sl≤1048576)(p:List OpD×Nat)(hp:spoilB t i D=p) :
  Calls Tryz.prog 65 #[.slice a D.length c,.pointer (some ⟨R,0,none⟩)] w (SpIs t R P p w):=by
 obtain⟨L,l,hbod,hD⟩:=hB;have hl:l.length=D.length:=by rw[←hD,List.length_map]
 have HB:Hid (Bod P L w (.slice a D.length c) l):=hbod;have HD:Hid (l.map (·.d)=D):=hD
 have HP:Hid (∀b,P b→b<w.heap.size∧R<b):=hP;have HL:Hid (l.length=D.length):=hl;have HSL:Hid (∀x∈D,x.sl≤1048576):=hsl;have hv:=t.v_le i;have hv2:=t.v_le (t.n i);have hlt:t.v (t.n i)%D.length<D.length:=Nat.mod_lt _ hne;unfold spoilB at hp;dsimp only at hp;have hg:=hbod.own.at_ (by omega)
 obtain⟨g,c',e,hq,hc,hcell⟩:=hg;obtain⟨rfl,rfl⟩:a=some ⟨g,0,none⟩∧c=c':=by injection e with e1 _ e3;exact⟨e1,e3⟩
 have HQ:Hid (P g∧L g=0):=hq;have HC:Hid (∀j,j<(cellsO l).length→w.cell? ⟨g,j,none⟩=(cellsO l)[j]?∧w.frozen? ⟨g,j,none⟩=false):=hcell;clear hbod hD hP hl hsl e hq hcell;generalize hn:D.length=n at *;have HN:Hid (D.length=n):=hn;clear hn;have hn0:¬(n:Int)=0:=by omega
 go_enter Tryz.func65,Tryz.ntmps65;go_wp2_with fail;refine (next_any t R i w hr).mono ?_;rintro e w1 ⟨rfl,hon1⟩;have HR1:Hid (RdOn t R (t.n i) w w1):=hon1;clear hon1 hr;generalize t.v i=ki at *;go_wp2_with fail;refine (next_any t R (t.n i) w1 HR1.out.1).mono ?_;rintro e w2 ⟨rfl,hon2⟩;have HR2:Hid (RdOn t R (t.n (t.n i)) w w2):=HR1.out.trans hon2;clear hon2;generalize t.v (t.n i)=kp at *;generalize t.n (t.n i)=j at *;obtain⟨q,hq⟩:∃q:Nat,ki%10=q:=⟨_,rfl⟩;have hq':(ki:Int)%10=(q:Int):=by omega
 have hql:q<10:=by omega
 obtain⟨o,ho⟩:∃o:Nat,kp%n=o:=⟨_,rfl⟩;have ho':(kp:Int)%(n:Int)=(o:Int):=by rw[←ho];omega
 rw[hq,ho]at hp;rw[ho]at hlt;clear hq ho;obtain⟨x,hx⟩:∃x,l[o]? = some x:=⟨_,List.getElem?_eq_getElem (by have:=HL.out;omega)⟩
 have HX:Hid (l[o]? = some x):=hx;have hbk:w2.heap[g]? = w.heap[g]?:=HR2.out.2.block g (HP.out g HQ.out.1).1 (fun e=>by have:=(HP.out g HQ.out.1).2;omega)
 have cc:∀m,m<3→w2.cell? ⟨g,o*3+m,none⟩=(ocv x)[m]?∧w2.frozen? ⟨g,o*3+m,none⟩=false:=fun m hm=>by
  have h1:=HC.out (o*3+m) (by rw[cellsO_len];have:=HL.out;omega)
  rw[World.cell?_of_block (a:=⟨g,o*3+m,none⟩) hbk,World.frozen?_of_block (a:=⟨g,o*3+m,none⟩) hbk];exact⟨h1.1.trans (flat_get ocv 3 ocv_len l o m x hx hm),h1.2⟩
 have x0:w2.cell? ⟨g,o*3,none⟩=some (.int .i64 x.d.kind):=(cc 0 (by omega)).1
 have x1:w2.cell? ⟨g,o*3+1,none⟩=some (.slice x.a x.d.sl x.c):=(cc 1 (by omega)).1
 have x2:w2.cell? ⟨g,o*3+2,none⟩=some (.int .i64 x.d.arg):=(cc 2 (by omega)).1
 have f0:w2.frozen? ⟨g,o*3,none⟩=false:=(cc 0 (by omega)).2
 have f1:w2.frozen? ⟨g,o*3+1,none⟩=false:=(cc 1 (by omega)).2
 have f2:w2.frozen? ⟨g,o*3+2,none⟩=false:=(cc 2 (by omega)).2
 have HS:Hid (OwnC (fun b=>P b∧L b=o+1) w2 (.slice x.a x.d.sl x.c) 1 x.d.sl (intVs .i64 x.d.set x.d.sl)):=(HB.out.sets o x hx).on (fun b hb=>HR2.out.2.block b (HP.out b hb.1).1 (fun e=>by have:=(HP.out b hb.1).2;omega))
 have hlt':(o:Int)<(n:Int):=by omega
 have hgl:g<w2.heap.size:=lt_of_cell x0;clear cc hbk hx;by_cases q0:q=0
 ·rw[if_pos q0]at hp
  subst q0 hp;go_wp2;go_ret;exact sp_put (j:=0) (y:=⟨{ x.d with kind:=8 },x.a,x.c⟩) _ HR2.out HP.out HB.out HD.out HN.out HX.out (by omega) (by simp[ocv]) rfl HS.out
 have q0':¬(q:Int)=0:=by omega
 rw[if_neg q0]at hp;by_cases q1:q=1
 ·rw[if_pos q1]at hp
  subst q1 hp;go_wp2;go_ret;exact sp_put (j:=0) (y:=⟨{ x.d with kind:=-1 },x.a,x.c⟩) _ HR2.out HP.out HB.out HD.out HN.out HX.out (by omega) (by simp[ocv]) rfl HS.out
 have q1':¬(q:Int)=1:=by omega
 rw[if_neg q1]at hp;by_cases q2:q=2
 ·rw[if_pos q2]at hp
  have e3:((t.v j%8:Nat):Int)=(t.v j:Int)%8:=by omega
  rw[e3]at hp;clear e3;have hv3:=t.v_le j;have hnx:=next_any t R j w2 HR2.out.1;obtain⟨k3,hk3⟩:∃x,t.v j=x:=⟨_,rfl⟩;rw[hk3]at hp hv3 hnx;subst q2 hp;clear hk3;have HNX:Hid (Calls Tryz.prog 29 #[.pointer (some ⟨R,0,none⟩)] w2 (fun e w'=>e=.returned (.int .i64 (k3:Int))∧RdOn t R (t.n j) w2 w')):=hnx
  clear hnx;go_wp2_with fail;refine Calls.mono HNX.out ?_;rintro e w3 ⟨rfl,hon3⟩;have HR3:Hid (RdOn t R (t.n j) w w3):=HR2.out.trans hon3;have hbk:w3.heap[g]? = w2.heap[g]?:=hon3.2.block g hgl (fun e=>by have:=(HP.out g HQ.out.1).2;omega)
  have y0:=(World.cell?_of_block (a:=⟨g,o*3,none⟩) hbk).trans x0;have yf0:=(World.frozen?_of_block (a:=⟨g,o*3,none⟩) hbk).trans f0;have HS3:Hid (OwnC (fun b=>P b∧L b=o+1) w3 (.slice x.a x.d.sl x.c) 1 x.d.sl (intVs .i64 x.d.set x.d.sl)):=HS.out.on (fun b hb=>hon3.2.block b (by have:=(HP.out b hb.1).1;have:=HR2.out.2.size;omega) (fun e=>by have:=(HP.out b hb.1).2;omega))
  clear hon3 hbk x0 x1 x2 f0 f1 f2;go_wp2;go_ret;exact sp_put (j:=0) (y:=⟨{ x.d with kind:=(k3:Int)%8 },x.a,x.c⟩) _ HR3.out HP.out HB.out HD.out HN.out HX.out (by omega) (by simp[ocv]) rfl HS3.out
 have q2':¬(q:Int)=2:=by omega
 rw[if_neg q2]at hp;by_cases q3:q=3
 ·rw[if_pos q3]at hp
  subst q3 hp;go_wp2;go_ret;exact sp_put (j:=2) (y:=⟨{ x.d with arg:=wrap64 (x.d.arg+1) },x.a,x.c⟩) _ HR2.out HP.out HB.out HD.out HN.out HX.out (by omega) (by simp[ocv]) rfl HS.out
 have q3':¬(q:Int)=3:=by omega
 rw[if_neg q3]at hp;by_cases q4:q=4
 ·rw[if_pos q4]at hp
  subst q4 hp;go_wp2;go_ret;exact sp_put (j:=2) (y:=⟨{ x.d with arg:=-1 },x.a,x.c⟩) _ HR2.out HP.out HB.out HD.out HN.out HX.out (by omega) (by simp[ocv]) rfl HS.out
 have q4':¬(q:Int)=4:=by omega
 rw[if_neg q4]at hp;by_cases q5:q=5
 ·rw[if_pos q5]at hp
  subst q5 hp;have hxs:x.d.sl≤1048576:=HSL.out x.d (by rw[←HD.out];exact List.mem_map.2 ⟨x,List.mem_of_getElem? HX.out,rfl⟩)
  have HI:Hid (Src Tryz.prog 1 33 (.slice (some ⟨w2.heap.size,0,none⟩) 1 1) 1 [.int .i64 7] (w2.alloc (.cells #[.int .i64 7] 3))):=src_cells Tryz.underlying33 rfl (fun j u hu=>by
   have hb:=World.alloc_heap_new w2 (.cells #[.int .i64 7] 3);simp only[World.cell?,hb];rw[←hu];simp) (fun u hu=>by obtain rfl:=List.mem_singleton.1 hu;rfl)
  go_wp2_with (at_builtin;refine appE rfl _ _ 33 33 rfl rfl rfl elem33 (Q:=fun b=>P b∧L b=o+1) (n:=x.d.sl) (cs:=intVs .i64 x.d.set x.d.sl) (m:=1) (news:=[.int .i64 7]) (HS.out.on (fun b hb=>Below.heap_alloc w2 _ _ (by have:=(HP.out b hb.1).1;have:=HR2.out.2.size;omega))) HI.out (by omega) ?_;intro v4 W4 hown hgrew hsz;rw[own_set1 HS.out]at hown;obtain⟨a4,c4,rfl⟩:=own_shape hown;have z0:W4.heap[g]? = w2.heap[g]?:=(hgrew.block g (Nat.lt_of_lt_of_le hgl (bel1 w2 _).size) (fun e=>by have h1:=e.2;rw[HQ.out.2]at h1;omega)).trans (Below.heap_alloc w2 _ _ hgl);have z1:=(World.cell?_of_block (a:=⟨g,o*3+1,none⟩) z0).trans x1;have z2:=(World.frozen?_of_block (a:=⟨g,o*3+1,none⟩) z0).trans f1;have HE:Hid (SpIs t R P (dset D o (fun o=>{ o with sl:=o.sl+1,set:=fun i=>if i=o.sl then 7 else o.set i }),j) w (.returned (.slice (some ⟨g,0,none⟩) n c)) (W4.setCell ⟨g,o*3+1,none⟩ (.slice a4 (x.d.sl+1) c4))):=sp_set (y:=⟨{ x.d with sl:=x.d.sl+1,set:=fun i=>if i=x.d.sl then 7 else x.d.set i },a4,c4⟩) _ HR2.out HP.out HB.out HD.out HN.out HX.out ⟨rfl,rfl⟩ rfl ((Keep.alloc _ _ _).trans hgrew.kept) (own_in hown (Nat.succ_pos _));clear hown hgrew hsz z0)
  go_ret;exact HE.out
 have q5':¬(q:Int)=5:=by omega
 rw[if_neg q5]at hp;by_cases q6:q=6
 ·rw[if_pos q6]at hp
  subst q6 hp;have z0:(w2.alloc (.cells #[.int .i64 5,.int .i64 6,.int .i64 7,.int .i64 9] 3)).heap[g]? = w2.heap[g]?:=Below.heap_alloc w2 _ _ hgl;have z1:=(World.cell?_of_block (a:=⟨g,o*3+1,none⟩) z0).trans x1;have z2:=(World.frozen?_of_block (a:=⟨g,o*3+1,none⟩) z0).trans f1;have HE:Hid (SpIs t R P (dset D o (fun o=>{ o with sl:=4,set:=lf [5,6,7,9] }),j) w (.returned (.slice (some ⟨g,0,none⟩) n c)) ((w2.alloc (.cells #[.int .i64 5,.int .i64 6,.int .i64 7,.int .i64 9] 3)).setCell ⟨g,o*3+1,none⟩ (.slice (some ⟨w2.heap.size,0,none⟩) 4 4))):=sp_set (y:=⟨{ x.d with sl:=4,set:=lf [5,6,7,9] },some ⟨w2.heap.size,0,none⟩,4⟩) _ HR2.out HP.out HB.out HD.out HN.out HX.out ⟨rfl,rfl⟩ rfl (Keep.alloc _ _ _) (own_four w2)
  have hcm:(w2.alloc (.cells #[.int .i64 5,.int .i64 6,.int .i64 7,.int .i64 9] 3)).setCell ⟨g,o*3+1,none⟩ (.slice (some ⟨w2.heap.size,0,none⟩) 4 4)=(w2.setCell ⟨g,o*3+1,none⟩ (.slice (some ⟨w2.heap.size,0,none⟩) 4 4)).alloc (.cells #[.int .i64 5,.int .i64 6,.int .i64 7,.int .i64 9] 3):=World.setCell_alloc_past _ _ _ _ hgl;rw[hcm]at HE;clear hcm;go_wp2;go_ret;exact HE.out
 have q6':¬(q:Int)=6:=by omega
 rw[if_neg q6]at hp;by_cases q7:q=7
 ·rw[if_pos q7]at hp
  subst q7 hp;have HE:Hid (SpIs t R P (D.take (n-1),j) w (.returned (.slice (some ⟨g,0,none⟩) (n-1) c)) w2):=sp_take HR2.out HP.out HB.out HD.out HN.out (by omega)
  have hn1:1≤(n:Int):=by omega
  have hnc:(n:Int)-1≤(c:Int):=by have:=HL.out;omega
  have hn2:((n:Int)-1).toNat=n-1:=by omega
  go_wp2;go_ret;exact HE.out
 have q7':¬(q:Int)=7:=by omega
 rw[if_neg q7]at hp;by_cases q8:q=8
 ·rw[if_pos q8]at hp
  subst q8 hp;go_wp2_with (at_builtin;refine appE rfl _ _ 42 42 rfl rfl rfl elem42 (Q:=fun b=>P b∧L b=0) (n:=n) (cs:=cellsO l) (news:=cellsO [⟨opd 4 0,none,0⟩]) (by have h:=HB.out.own;rw[HL.out]at h;exact (h.on (fun b hb=>HR2.out.2.block b (HP.out b hb.1).1 (fun e=>by have:=(HP.out b hb.1).2;omega))).on (fun b hb=>Below.heap_alloc w2 _ _ (by have:=(HP.out b hb.1).1;have:=HR2.out.2.size;omega))) (src_new (World.alloc_heap_new w2 _)) (by omega) ?_;intro v4 W4 hown hgrew hsz;have HE:Hid (SpIs t R P (D++[opd 4 0],j) w (.returned v4) W4):=sp_snoc 4 HR2.out HP.out HB.out HD.out HL.out (Keep.alloc _ _ _) hown hgrew;clear hown hgrew hsz)
  go_ret;exact HE.out
 have q8':¬(q:Int)=8:=by omega
 rw[if_neg q8]at hp;subst hp;go_wp2_with (at_builtin;refine appE rfl _ _ 42 42 rfl rfl rfl elem42 (Q:=fun b=>P b∧L b=0) (n:=n) (cs:=cellsO l) (news:=cellsO [⟨opd 0 0,none,0⟩]) (by have h:=HB.out.own;rw[HL.out]at h;exact (h.on (fun b hb=>HR2.out.2.block b (HP.out b hb.1).1 (fun e=>by have:=(HP.out b hb.1).2;omega))).on (fun b hb=>Below.heap_alloc w2 _ _ (by have:=(HP.out b hb.1).1;have:=HR2.out.2.size;omega))) (src_new (World.alloc_heap_new w2 _)) (by omega) ?_;intro v4 W4 hown hgrew hsz;have HE:Hid (SpIs t R P (D++[opd 0 0],j) w (.returned v4) W4):=sp_snoc 0 HR2.out HP.out HB.out HD.out HL.out (Keep.alloc _ _ _) hown hgrew;clear hown hgrew hsz)
 go_ret;exact HE.out
end
section
open Go.RowKit
open M (OpD NodeD Gr)
def spoilG(t:Tp)(i:Nat)(rs ls:List NL):(List NL×List NL)×Nat :=
 let k:=t.v i%12
 let a:=t.v (t.n i)%rs.length
 let j:=t.n (t.n i)
 if k<4 then ((bdSet rs a (spoilB t j (nlAt rs a).bd).1,ls),(spoilB t j (nlAt rs a).bd).2)
 else if k=4 then ((rs++[⟨[((115+a%8:Nat):Int)],true,leafD 0 0⟩],ls),j)
 else if k=5 then ((rs.set a ⟨[49,97],(nlAt rs a).has,(nlAt rs a).bd⟩,ls),j)
 else if k=6 then ((rs.set a ⟨[],(nlAt rs a).has,(nlAt rs a).bd⟩,ls),j)
 else if k=7 then ((rs,ls++[⟨[97],true,leafD 0 0⟩]),j)
 else if k=8 then ((rs,ls++[⟨[122,122],false,[]⟩]),j)
 else if k=9∧0<ls.length then ((rs,ls.set (a%ls.length) ⟨(nlAt ls (a%ls.length)).nm,!(nlAt ls (a%ls.length)).has,(nlAt ls (a%ls.length)).bd⟩),j)
 else if k=10 then (([],ls),j)
 else ((rs.set a ⟨[97,46,98],(nlAt rs a).has,(nlAt rs a).bd⟩,ls),j)
theorem GrP.swapR{w0 W V:World}{G:Nat→Nat}{lv:Value}{rs ls:List NC}{g n c a:Nat}{x y:NC}{C:Nat→Prop}(h:GrP w0 G W (.slice (some ⟨g,0,none⟩) n c) lv rs ls)(hz:w0.heap.size≤W.heap.size)(k:Keep C W V)(hC:∀b,C b→G b=3∨G b=4+2*a)(hx:rs[a]? = some x)(hg:Tg G W 0 g)(hy:ncR y=(ncR x).set 1 (.slice y.ba y.d.bd.length y.bc))(hn:y.na=x.na∧y.d.nm=x.d.nm)(hb:BodP (Tg (tagN G W (4+2*a)) V (4+2*a)) V (.slice y.ba y.d.bd.length y.bc) y.d.bd) :
  GrP w0 (tagN G W (4+2*a)) (V.setCell ⟨g,a*2+1,none⟩ (.slice y.ba y.d.bd.length y.bc)) (.slice (some ⟨g,0,none⟩) n c) lv (rs.set a y) ls:=by
 have hi:=(List.getElem?_eq_some_iff.1 hx).1;have zz:=k.size;have st0:∀{t:Nat},t≠3→t≠4+2*a→Stay (Tg G W t) W V:=fun {t} h3 h4 b hb=>k.block b hb.1 (fun q=>by
  rcases hC b q with e | e
  ·exact h3 (hb.2.symm.trans e)
  ·exact h4 (hb.2.symm.trans e))
 have wd0:∀t b,Tg G W t b→Tg (tagN G W (4+2*a)) V t b:=tg_wide zz (fun b hb=>tagN_old hb)
 have hg':Tg (tagN G W (4+2*a)) V 0 g:=wd0 0 g hg;have st1:∀{t:Nat},t≠0→Stay (Tg (tagN G W (4+2*a)) V t) V (V.setCell ⟨g,a*2+1,none⟩ (.slice y.ba y.d.bd.length y.bc)):=fun {t} ht b hb=>Below.heap_setCell _ _ _ _ (fun e=>ht (by rw[←hb.2,e];exact hg'.2))
 have wd1:∀t b,Tg (tagN G W (4+2*a)) V t b→Tg (tagN G W (4+2*a)) (V.setCell ⟨g,a*2+1,none⟩ (.slice y.ba y.d.bd.length y.bc)) t b:=tg_wide (by rw[size_set];exact Nat.le_refl _) (fun b hb=>rfl)
 have hn0:n=rs.length:=by
  rcases h.rules with⟨e,_⟩|⟨g',cap,e,_⟩
  ·cases e
  ·injection e
 have names:∀z:NC,Ints (Tg G W 2) .u8 W z.na z.d.nm.length (lf z.d.nm)→Ints (Tg (tagN G W (4+2*a)) (V.setCell ⟨g,a*2+1,none⟩ (.slice y.ba y.d.bd.length y.bc)) 2) .u8 (V.setCell ⟨g,a*2+1,none⟩ (.slice y.ba y.d.bd.length y.bc)) z.na z.d.nm.length (lf z.d.nm):=fun (z:NC) hz=>((((hz.on (st0 (by omega) (by omega))).wide (wd0 2)).on (st1 (by omega))).wide (wd1 2))
 refine⟨?_,ownC_wide ((ownC_wide (h.labs.on (st0 (by omega) (by omega))) (wd0 1)).on (st1 (by omega))) (wd1 1),fun z hz=>?_,fun z hz=>names z (h.ln z hz),fun j z hz=>?_,fun j z hz=>((((h.lb j z hz).on (st0 (by omega) (by omega))).wide (wd0 _)).on (st1 (by omega))).wide (wd1 _),fun b hb=>?_⟩
 ·have hr:=ownC_wide (h.rules.on (st0 (by omega) (by omega))) (wd0 0)
  rw[hn0]at hr ⊢;have:=ownC_wide (OwnC.put hr (j:=a*2+1) (by rw[flat_len ncR 2 ncR_len];omega) (.slice y.ba y.d.bd.length y.bc)) (wd1 0)
  rw[flat_set ncR 2 ncR_len rs a 1 x y _ hx (by omega) hy]at this
  rw[List.length_set];exact this
 ·rcases mem_set' hz with rfl | q
  ·have:=names x (h.rn x (List.mem_of_getElem? hx))
   rw[hn.1,hn.2];exact this
  ·exact names z (h.rn z q)
 ·rcases getElem?_set' hx hz with⟨rfl,rfl⟩|⟨hne,q⟩
  ·exact (hb.on (st1 (by omega))).wide (wd1 _)
  ·exact ((((h.rb j z q).on (st0 (by omega) (by omega))).wide (wd0 _)).on (st1 (by omega))).wide (wd1 _)
 ·by_cases e:b<W.heap.size
  ·rw[tagN_old e]at hb;exact h.new b hb
  ·omega
theorem LpS.spoil{t:Tp}{R:Nat}{w0 w:World}{gb:Nat}{G:Nat→Nat}{W V:World}{g n c a:Nat}{lv:Value}{rs ls:List NC}{i j:Nat}{x:NC}{ba:Option Addr}{bc:Nat}{D:List OpD}(h:LpS t R w0 w gb G W (.slice (some ⟨g,0,none⟩) n c) lv rs ls i)(hR:R<w0.heap.size∧w0.heap.size≤gb)(k:Keep (fun b=>b=R∨Tg G W (4+2*a) b) W V)(hrd:RdA t R V j)(hb:BodP (fun b=>Tg G W (4+2*a) b∨New W V b) V (.slice ba D.length bc) D)(hx:rs[a]? = some x)(hg:Tg G W 0 g) :
  ∃G',LpS t R w0 w gb G' (V.setCell ⟨g,a*2+1,none⟩ (.slice ba D.length bc)) (.slice (some ⟨g,0,none⟩) n c) lv (rs.set a ⟨⟨x.d.nm,x.d.has,D⟩,x.na,x.nc,ba,bc⟩) ls j:=by
 have zz:=k.size;have hg0:w0.heap.size≤g:=h.gv.gr.new g (by rw[hg.2];omega)
 have hne:gb+1≠g:=fun e=>by have h3:=hg.2;rw[←e,h.tg]at h3;omega
 have hne':gb≠g:=fun e=>by have h3:=hg.2;rw[←e,h.gv.tg]at h3;omega
 have hlt1:gb+1<W.heap.size:=lt_of_cell h.tw.1;have hs:Keep (fun b=>b=g) V (V.setCell ⟨g,a*2+1,none⟩ (.slice ba D.length bc)):=Keep.setCell _ _ _ rfl
 have nC:∀b,G b=3→b≠R→¬(b=R∨Tg G W (4+2*a) b):=fun b h3 hne q=>by
  rcases q with q | q
  ·exact hne q
  ·have:=q.2;omega
 have htw:=(h.tw.keep k (nC _ h.tg (by omega))).keep hs hne
 have hbg:=hs.block gb (by have:=h.gv.lt;omega) hne'
 have hbk:=hbg.trans (k.block gb h.gv.lt (nC _ h.gv.tg (by omega)))
 refine⟨tagN G W (4+2*a),⟨(World.cell?_of_block (a:=⟨gb,0,none⟩) hbk).trans h.gv.c0,(World.cell?_of_block (a:=⟨gb,1,none⟩) hbk).trans h.gv.c1,(World.frozen?_of_block (a:=⟨gb,0,none⟩) hbk).trans h.gv.f0,(World.frozen?_of_block (a:=⟨gb,1,none⟩) hbk).trans h.gv.f1,?_,by rw[tagN_old h.gv.lt];exact h.gv.tg,by rw[size_set];have:=h.gv.lt;omega,by rw[size_set];have:=h.gv.le;omega⟩,htw,by rw[tagN_old hlt1];exact h.tg,hrd.keep hs (fun b e=>by omega),?_⟩
 ·refine h.gv.gr.swapR (y:=⟨⟨x.d.nm,x.d.has,D⟩,x.na,x.nc,ba,bc⟩) h.gv.le k (fun b q=>?_) hx hg (by simp[ncR]) ⟨rfl,rfl⟩ (hb.wide (fun b q=>?_))
  ·rcases q with q | q
   ·exact .inl (by rw[q];exact h.gv.tagR hR.1)
   ·exact .inr q.2
  ·rcases q with q | q
   ·exact⟨by have:=q.1;omega,by rw[tagN_old q.1];exact q.2⟩
   ·exact tg_new q
 ·refine (h.kp.trans (k.mono (fun b q=>?_))).trans (hs.mono (fun b e=>.inr (by omega)))
  rcases q with q | q
  ·exact .inl q
  ·exact .inr (h.gv.gr.new b (by rw[q.2];omega))
theorem LpS.addRule{t:Tp}{R:Nat}{w0 w:World}{gb:Nat}{G G2:Nat→Nat}{W W2 W4:World}{rv lv v4:Value}{rs ls:List NC}{i:Nat}{x:NC}(h:LpS t R w0 w gb G W rv lv rs ls i)(hR:R<w0.heap.size∧w0.heap.size≤gb)(k:Keep (fun _=>False) W W2)(hold:∀b,b<W.heap.size→G2 b=G b)(hg2:GVar gb w0 G2 W2 rv lv rs ls)(hn:Ints (Tg G2 W2 2) .u8 W2 x.na x.d.nm.length (lf x.d.nm))(hb:BodP (Tg G2 W2 (4+2*rs.length)) W2 (.slice x.ba x.d.bd.length x.bc) x.d.bd)
  (own:OwnC (fun b=>Tg G2 W2 0 b∨W2.heap.size≤b) W4 v4 2 (rs.length+1) (rs.flatMap ncR++ncR x)) (g4:Grew (Tg G2 W2 0) W2 W4):∃G',LpS t R w0 w gb G' (W4.setCell ⟨gb,0,none⟩ v4) v4 lv (rs++[x]) ls i:=by
 obtain⟨c0,c1,f0,f1⟩:=dg_cells hg2 (by omega) g4
 have hgr:=hg2.gr.addRule hg2.le hn hb own g4;have hlt:=hg2.lt;have z4:=g4.size;have hlt1:gb+1<W.heap.size:=lt_of_cell h.tw.1;have zk:=k.size;have hg3:tagN G2 W2 0 gb=3:=by rw[tagN_old hlt];exact hg2.tg
 have hg31:G2 (gb+1)=3:=by rw[hold _ hlt1];exact h.tg
 have nr:¬Tg G2 W2 0 (gb+1):=fun q=>by have:=q.2;omega
 have hs:Keep (fun b=>b=gb) W4 (W4.setCell ⟨gb,0,none⟩ v4):=Keep.setCell _ _ _ rfl
 refine⟨tagN G2 W2 0,⟨World.cell?_setCell_same' _ _ _ (by rw[c0];rfl),(World.cell?_setCell_other _ _ _ _ (by simp)).trans c1,by rw[World.frozen?_setCell];exact f0,by rw[World.frozen?_setCell];exact f1,hgr.set hg3,hg3,by rw[size_set];omega,by rw[size_set];have:=hg2.le;omega⟩,((h.tw.keep k (fun e=>e)).keep g4.kept nr).keep hs (by omega),by rw[tagN_old (by omega)];exact hg31,((h.rd.keep k (fun _ e=>e.elim)).keep g4.kept (fun b q=>?_)).keep hs (fun b e=>by omega),((h.kp.trans (k.mono (fun _ e=>e.elim))).trans (g4.kept.mono (fun b q=>.inr ?_))).trans (hs.mono (fun b e=>.inr (by omega)))⟩
 ·have:=hg2.gr.new b (by rw[q.2];omega)
  omega
 ·exact hg2.gr.new b (by rw[q.2];omega)
theorem LpS.addLabel{t:Tp}{R:Nat}{w0 w:World}{gb:Nat}{G G2:Nat→Nat}{W W2 W4:World}{rv lv v4:Value}{rs ls:List NC}{i:Nat}{x:NC}(h:LpS t R w0 w gb G W rv lv rs ls i)(hR:R<w0.heap.size∧w0.heap.size≤gb)(k:Keep (fun _=>False) W W2)(hold:∀b,b<W.heap.size→G2 b=G b)(hg2:GVar gb w0 G2 W2 rv lv rs ls)(hn:Ints (Tg G2 W2 2) .u8 W2 x.na x.d.nm.length (lf x.d.nm))(hb:BodP (Tg G2 W2 (5+2*ls.length)) W2 (.slice x.ba x.d.bd.length x.bc) x.d.bd)
  (own:OwnC (fun b=>Tg G2 W2 1 b∨W2.heap.size≤b) W4 v4 3 (ls.length+1) (ls.flatMap ncL++ncL x)) (g4:Grew (Tg G2 W2 1) W2 W4):∃G',LpS t R w0 w gb G' (W4.setCell ⟨gb,1,none⟩ v4) rv v4 rs (ls++[x]) i:=by
 obtain⟨c0,c1,f0,f1⟩:=dg_cells hg2 (by omega) g4
 have hgr:=hg2.gr.addLabel hg2.le hn hb own g4;have hlt:=hg2.lt;have z4:=g4.size;have hlt1:gb+1<W.heap.size:=lt_of_cell h.tw.1;have zk:=k.size;have hg3:tagN G2 W2 1 gb=3:=by rw[tagN_old hlt];exact hg2.tg
 have hg31:G2 (gb+1)=3:=by rw[hold _ hlt1];exact h.tg
 have nr:¬Tg G2 W2 1 (gb+1):=fun q=>by have:=q.2;omega
 have hs:Keep (fun b=>b=gb) W4 (W4.setCell ⟨gb,1,none⟩ v4):=Keep.setCell _ _ _ rfl
 refine⟨tagN G2 W2 1,⟨(World.cell?_setCell_other _ _ _ _ (by simp)).trans c0,World.cell?_setCell_same' _ _ _ (by rw[c1];rfl),by rw[World.frozen?_setCell];exact f0,by rw[World.frozen?_setCell];exact f1,hgr.set hg3,hg3,by rw[size_set];omega,by rw[size_set];have:=hg2.le;omega⟩,((h.tw.keep k (fun e=>e)).keep g4.kept nr).keep hs (by omega),by rw[tagN_old (by omega)];exact hg31,((h.rd.keep k (fun _ e=>e.elim)).keep g4.kept (fun b q=>?_)).keep hs (fun b e=>by omega),((h.kp.trans (k.mono (fun _ e=>e.elim))).trans (g4.kept.mono (fun b q=>.inr ?_))).trans (hs.mono (fun b e=>.inr (by omega)))⟩
 ·have:=hg2.gr.new b (by rw[q.2];omega)
  omega
 ·exact hg2.gr.new b (by rw[q.2];omega)
theorem mid_old{gb:Nat}{W0 w W2:World}{G:Nat→Nat}{rv lv v:Value}{rs ls:List NC}{D:List OpD}{z:List Int}{na:Option Addr}{N B:Nat→Prop}(tag:Nat)(h:GVar gb W0 G w rv lv rs ls)(k:Keep (fun _=>False) w W2)(hn:Ints N .u8 W2 na z.length (lf z))(hb:BodP B W2 v D)(hN:∀b,N b→New w W2 b)(hB:∀b,B b→New w W2 b)(hNB:∀b,N b→¬B b) :
  ∃G',(∀b,b<w.heap.size→G' b=G b)∧GVar gb W0 G' W2 rv lv rs ls∧Ints (Tg G' W2 2) .u8 W2 na z.length (lf z)∧BodP (Tg G' W2 tag) W2 v D:=by
 classical
 let G':Nat→Nat:=fun b=>if b<w.heap.size then G b else if N b then 2 else if B b then tag else 3
 have old:∀b,b<w.heap.size→G' b=G b:=fun b hb=>if_pos hb
 have hbk:=k.block gb h.lt (fun q=>q)
 have zz:=k.size;have hlt:=h.lt;refine⟨G',old,⟨(World.cell?_of_block (a:=⟨gb,0,none⟩) hbk).trans h.c0,(World.cell?_of_block (a:=⟨gb,1,none⟩) hbk).trans h.c1,(World.frozen?_of_block (a:=⟨gb,0,none⟩) hbk).trans h.f0,(World.frozen?_of_block (a:=⟨gb,1,none⟩) hbk).trans h.f1,
  h.gr.on zz (fun b hb hg=>k.block b hb (fun q=>q)) old (fun b hb=>?_),by rw[old gb hlt];exact h.tg,by omega,Nat.le_trans h.le zz⟩,hn.wide (fun b q=>⟨(hN b q).2,?_⟩),hb.wide (fun b q=>⟨(hB b q).2,?_⟩)⟩
 ·by_cases e:b<w.heap.size
  ·rw[old b e]at hb;exact h.gr.new b hb
  ·have:=h.le;omega
 ·have h1:=(hN b q).1
  show (if b<w.heap.size then G b else if N b then 2 else if B b then tag else 3)=2
  rw[if_neg (by omega),if_pos q]
 ·have h1:=(hB b q).1
  show (if b<w.heap.size then G b else if N b then 2 else if B b then tag else 3)=tag
  rw[if_neg (by omega),if_neg (fun e=>hNB b e q),if_pos q]
theorem LpS.name{t:Tp}{R:Nat}{w0 w:World}{gb:Nat}{G:Nat→Nat}{W V:World}{g n c a:Nat}{lv:Value}{rs ls:List NC}{i:Nat}{x:NC}{na:Option Addr}{nc:Nat}{z:List Int}(h:LpS t R w0 w gb G W (.slice (some ⟨g,0,none⟩) n c) lv rs ls i)(hR:R<w0.heap.size∧w0.heap.size≤gb)(k:Keep (fun _=>False) W V)(hn:Ints (New W V) .u8 V na z.length (lf z))(hx:rs[a]? = some x)(hg:Tg G W 0 g) :
  ∃G',LpS t R w0 w gb G' (V.setCell ⟨g,a*2,none⟩ (.slice na z.length nc)) (.slice (some ⟨g,0,none⟩) n c) lv (rs.set a ⟨⟨z,x.d.has,x.d.bd⟩,na,nc,x.ba,x.bc⟩) ls i:=by
 have hV:LpS t R w0 w gb (tagN G W 2) V (.slice (some ⟨g,0,none⟩) n c) lv rs ls i:=⟨h.gv.later k (fun _ e=>e.elim) 2,h.tw.keep k (fun e=>e),by rw[tagN_old (lt_of_cell h.tw.1)];exact h.tg,h.rd.keep k (fun _ e=>e.elim),h.kp.trans (k.mono (fun _ e=>e.elim))⟩
 have:=hV.putR (j:=0) (y:=⟨⟨z,x.d.has,x.d.bd⟩,na,nc,x.ba,x.bc⟩) (u:=.slice na z.length nc) hR hx ⟨by have:=hg.1;have:=k.size;omega,by rw[tagN_old hg.1];exact hg.2⟩ (by omega) (by simp[ncR]) (hn.wide (fun b q=>tg_new q)) (hV.gv.gr.rb a x hx)
 exact⟨_,this⟩
theorem LpS.none_{t:Tp}{R:Nat}{w0 w:World}{gb:Nat}{G:Nat→Nat}{W:World}{rv lv:Value}{rs ls:List NC}{i:Nat}(h:LpS t R w0 w gb G W rv lv rs ls i)(hR:R<w0.heap.size∧w0.heap.size≤gb):LpS t R w0 w gb G (W.setCell ⟨gb,0,none⟩ (.slice none 0 0)) (.slice none 0 0) lv [] ls i:=by
 have hs:Keep (fun b=>b=gb) W (W.setCell ⟨gb,0,none⟩ (.slice none 0 0)):=Keep.setCell _ _ _ rfl
 have hgr:GrP w0 G W (.slice none 0 0) lv [] ls:=⟨.inl ⟨rfl,rfl,rfl⟩,h.gv.gr.labs,fun x hx=>(by cases hx),h.gv.gr.ln,fun j x hx=>(by simp at hx),h.gv.gr.lb,h.gv.gr.new⟩
 exact⟨⟨World.cell?_setCell_same' _ _ _ (by rw[h.gv.c0];rfl),(World.cell?_setCell_other _ _ _ _ (by simp)).trans h.gv.c1,by rw[World.frozen?_setCell];exact h.gv.f0,by rw[World.frozen?_setCell];exact h.gv.f1,hgr.set h.gv.tg,h.gv.tg,by rw[size_set];exact h.gv.lt,by rw[size_set];exact h.gv.le⟩,h.tw.keep hs (by omega),h.tg,h.rd.keep hs (fun b e=>by omega),h.kp.trans (hs.mono (fun b e=>.inr (by omega)))⟩
end
end Go.Proofs.YtcbnnfnlilbjeaaGreat
