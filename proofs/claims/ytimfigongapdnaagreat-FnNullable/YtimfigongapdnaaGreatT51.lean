import Derived.Test.YtimfigongapdnaaGreatT50
import Derived.Test.YtimfigongapdnaaGreatT35
set_option linter.unusedVariables false
set_option linter.unusedSimpArgs false
set_option maxHeartbeats 40000000
set_option maxRecDepth 100000
namespace Go.Proofs.YtimfigongapdnaaGreat
open Go.RowKit
open M (OpD ug Gr ur)
theorem urO:(Tryz.prog.info? 216).map (λi=>(i.zero,i.size,i.bytes))=some (some .nilIface,1,16):=by kernel_rfl
theorem urP:vG 91 216 1 16:=⟨Tryz.underlying91,⟨_,urO,rfl⟩,by omega⟩
theorem ulj{Y:World}(v:Value)(y:Nat)(c:y=Y.heap.size)(b:v.oneCell'=true):Src Tryz.prog 1 91 (.slice (some ⟨y,0,none⟩) 1 1) 1 [v] (Y.alloc (.cells #[v] 216)):=by
 subst c;refine Src.ofSlice (P:=Tryz.prog) _ Tryz.underlying91 ⟨Y.heap.size,0,none⟩ 1 1 [v] rfl (λj u a=>?_) (λu a=>?_)
 ·match j,a with
  |0,a=>simpa[Addr.add] using (cN Y.heap.size rfl a:(Y.alloc (.cells #[v] 216)).cell? ⟨Y.heap.size,0,none⟩=some u)
  |j+1,a=>simp at a
 simp at a;subst a;exact b
theorem unm{K L b s p il ic most ka kc la lc w Y W f k l}(d:MacA K L w b s p il ic most ka kc la lc)(n:Below w.heap.size w Y)(m:Grew (λx=>K x) Y W)(C:OwnC (λx=>K x\/Y.heap.size<=x) W (.slice k (s.st.length+1) l) 1 (s.st.length+1) (vl false s.st++[frC f (s.inNot||f.kind==1)]))(I:¬(s.st.length:Int) ≥ most)(F:s.done=false) :
  ActIs (s.push f most) K L b p il ic most w (.returned (.int .i64 (-1))) (W.setCell ⟨b,4,none⟩ (.slice k (s.st.length+1) l)):=by
 have B:s.push f most={ s with st:=s.st++[f] }:=by unfold MSt.push;rw[if_neg I]
 have E:=d.bl;have P:=n.size;have O:=m.size;have blk:∀x,x<w.heap.size->¬K x->W.heap[x]?=w.heap[x]?:=λx i o=>(m.block x (by omega) o).trans (n.block x i)
 have D:=blk b E d.kb;rw[B];refine⟨by unfold jt;simp[F],s.at_,s.st++[f],k,l,la,lc,λx=>(K x\/Y.heap.size<=x)/\x<W.heap.size,L,λ_=>⟨rfl,rfl⟩,⟨?_,?_,?_,?_,?_,?_,d.lb⟩,?_,λx i=>.inl i,?_⟩
 ·show MacC _ b _ p il ic most k (s.st++[f]).length l la s.log.length lc;rw[List.length_append,List.length_singleton];have h:=(d.c.on D).set4 k (s.st.length+1) l;exact⟨h.c0,h.c1,h.c2,h.c3,h.c4,h.c5,h.c6,h.ex,h.c8,h.c9,h.c10,h.fz⟩
 ·show OwnC _ _ (.slice k (s.st++[f]).length l) 1 (s.st++[f]).length (vl false (s.st++[f]));rw[ucq,List.length_append,List.length_singleton,Bool.false_or];rcases C with⟨e,_⟩|⟨g,cap,e,v,y,z,A,r⟩
  ·injection e with _ e2;exact absurd e2 (by omega)
  have H:g<W.heap.size:=by
   obtain⟨u,N⟩:=Option.isSome_iff_exists.1 (r 0 (by omega)).1;exact ud N
  have J:g≠b:=λe=>by
   subst e;rcases v with q|q
   ·exact d.kb q
   omega
  have o:(W.setCell ⟨b,4,none⟩ (.slice k (s.st.length+1) l)).heap[g]?=W.heap[g]?:=Below.heap_setCell _ _ _ _ J;exact .inr ⟨g,cap,e,⟨v,H⟩,y,z,λj G=>(World.cell?_of_block (a:=⟨g,j,none⟩) o).trans (A j G),r.later o⟩
 ·exact d.log.on (λx i=>(Below.heap_setCell _ _ _ _ (λe=>d.lb (by simp at e;exact e▸i))).trans (blk x (d.lt x (.inr i)) (λq=>d.kl x q i)))
 ·intro x i;rw[uj];rcases i with q|q
  ·exact q.2
  have:=d.lt x (.inr q);omega
 ·rintro x ⟨q|q,_⟩ h
  ·exact d.kl x q h
  have:=d.lt x (.inr h);omega
 ·rintro⟨q|q,_⟩
  ·exact d.kb q
  omega
 ·rintro x ⟨q|q,h⟩
  ·exact .inl q
  exact .inr ⟨by omega,by rw[uj];exact h⟩
 refine⟨m.os.trans n.os,m.tape.trans n.tape,m.output.trans n.output,by rw[uj];omega,λx i t=>(Below.heap_setCell _ _ _ _ (λe=>t (.inr (.inr e)))).trans (blk x i (λq=>t (.inl q)))⟩
theorem unn{K L b s e il ic most ka kc la lc w W f}(g:MacA K L w b s e il ic most ka kc la lc)(d:Below w.heap.size w W)(j:(s.st.length:Int) ≥ most) :
  ActIs (s.push f most) K L b e il ic most w (.returned (.int .i64 3)) W:=by
 have i:s.push f most=s.fin 3:=by unfold MSt.push;rw[if_pos j]
 rw[i];have h:=g.later d;exact⟨rfl,s.at_,s.st,ka,kc,la,lc,K,L,(λq=>by cases q),⟨⟨h.c.c0,h.c.c1,h.c.c2,h.c.c3,h.c.c4,h.c.c5,h.c.c6,h.c.ex,h.c.c8,h.c.c9,h.c.c10,h.c.fz⟩,h.st,h.log,h.lt,h.kl,h.kb,h.lb⟩,λx a=>.inl a,λx a=>.inl a,Kept.of d⟩
theorem ubA K L b s f g i u il ic most ka kc la lc w(m:MacA K L w b s u il ic most ka kc la lc)(J:s.st.length<=1000)(I:(s.st.length:Int)<=most)(H:s.done=false)(y : .iface g i=frC f (s.inNot||f.kind==1)) :
  Calls Tryz.prog 150 #[.pointer (some ⟨b,0,none⟩),.iface g i] w (ActIs (s.push f most) K L b u il ic most w):=by
 have j:Hid (MacA K L w b s u il ic most ka kc la lc):=m;have P:(Value.iface g i).oneCell'=true:=rfl;have D:=ua y;obtain⟨n,r⟩:=nm s.st.length;have l:Hid (s.st.length=n):=r;have F:=m.c.c1;have p:=m.c.c4;have lb:=m.bl;rw[r]at p J I;clear m y r;by_cases k:(n:Int)=most
 ·have N:((n:Int)==most)=true:=by simp[k]
  have o:=ua k;clear k;go_enter Tryz.func150,Tryz.ntmps150;go_wp2;go_quiet (fail);have d:Below w.heap.size w (w.drewN nq):=below_drewN (Below.refl _ _) nq;generalize w.drewN nq=Y at *;go_wp2;go_ret;exact unn j d (by rw[l.out,o.out];exact Int.le_refl _)
 have N:((n:Int)==most)=false:=by simp[k]
 have o:Hid (¬(n:Int)=most):=k;clear k;go_enter Tryz.func150,Tryz.ntmps150;go_wp2;go_quiet (fail);have d:Below w.heap.size w (w.drewN nq):=below_drewN (Below.refl _ _) nq;generalize w.drewN nq=Y at *;have T:=ue p d;have X:=Nat.lt_of_lt_of_le lb d.size;have E:Hid (Below w.heap.size w Y):=d;have C:Hid (OwnC K (Y.alloc (.cells #[.iface g i] 216)) (.slice ka n kc) 1 n (vl false s.st)):=by
  have h:=j.st;rw[l.out]at h;exact h.on (λx Q=>(uf d (ui Y _)).block x (j.lt x (.inl Q)))
 have z:Hid (∀W,Grew (λx=>K x) (Y.alloc (.cells #[.iface g i] 216)) W->W.cell? ⟨b,4,none⟩=some (.slice ka n kc)/\W.frozen? ⟨b,4,none⟩=false):=λW G=>by
  have e:W.heap[b]?=w.heap[b]?:=(G.block b (by simp;omega) j.kb).trans ((uf d (ui Y _)).block b lb);exact⟨(World.cell?_of_block (a:=⟨b,4,none⟩) e).trans (by have:=j.c.c4;rw[l.out]at this;exact this),(World.frozen?_of_block (a:=⟨b,4,none⟩) e).trans (j.c.fz 4)⟩
 clear d F p;go_wp2_with (at_builtin;refine ukw rfl _ _ 91 91 rfl rfl rfl urP C (ulj (.iface g i) Y.heap.size rfl P) (by omega) (λ_=>Nat.one_pos) ?_;intro Z W4 t q O;obtain⟨R,S,rfl⟩:=uk t;have B:Hid _:=t;have A:Hid _:=q;obtain⟨U,V⟩:=z W4 q;clear t q O);go_ret;have e:vl false s.st++[frC f (s.inNot||f.kind==1)]=vl false s.st++[.iface g i]:=by rw[D.out]
 have v:=B;rw[<-l.out]at v ⊢;exact unm (Y:=Y.alloc (.cells #[.iface g i] 216)) j.out (uf E.out (ui Y _)) A.out (by rw[e];exact v) (by rw[l.out];have:=o.out;omega) H
structure uno(b:Nat)(s:MSt)(ia:Option Addr)(il ic:Nat)(most:Int)(ka:Option Addr)(kn kc:Nat)(la:Option Addr)(ln lc:Nat)(w:World)(e:Ending)(w':World):Prop where
 val:e=.returned (.int .i64 (-1))
 c:MacC w' b s ia il ic most ka kn kc la ln lc
 kept:Kept (λx=>x=b) w w'
theorem vx{w W b}(h:Kept (λx=>x=b) w W)j v:Kept (λx=>x=b) w (W.setCell ⟨b,j,none⟩ v) :=
 ⟨h.os,h.tape,h.output,by rw[uj];exact h.size,λx c a=>(Below.heap_setCell _ _ _ _ a).trans (h.block x c a)⟩
theorem vm{P w W}(h:Kept P w W)o:Kept P w (W.alloc o) :=
 ⟨h.os,h.tape,h.output,by rw[World.size_alloc];exact Nat.le_succ_of_le h.size,λx a b=>(Below.heap_alloc _ _ _ (Nat.lt_of_lt_of_le a h.size)).trans (h.block x a b)⟩
theorem xV P w:Kept P w w:=⟨rfl,rfl,rfl,Nat.le_refl _,λ_ _ _=>rfl⟩
theorem uaY{P w W}(h:Kept P w W)n:Kept P w (W.drewN n):=⟨h.os,h.tape,h.output,h.size,h.block⟩
theorem ufa{P w W}(h:Kept P w W):Kept P w W.drew:=⟨h.os,h.tape,h.output,h.size,h.block⟩
theorem udJ(b:Nat)s e(il ic:Nat)(most:Int)ka(f kc:Nat)la(ln lc:Nat)(d:Int)(pos c:Nat)w(a:MacC w b s e il ic most ka f kc la ln lc)(m:c<=lc) :
  Calls Tryz.prog 161 #[.pointer (some ⟨b,0,none⟩),.int .i64 d,.agg #[.int .i64 (pos:Int),.int .i64 (c:Int)]] w (uno b { s with at_:=d,pos:=pos } e il ic most ka f kc la c lc w):=by
 have g:=ua a;have lb:=ud a.c0;have h:=a.c2;have c3:=a.c3;have i:=a.c5;have j:=a.fz 2;have k:=a.fz 3;have l:=a.fz 5;have n:(0:Int)<=(c:Int):=by omega
 have o:(c:Int)<=(lc:Int):=by omega
 go_enter Tryz.func161,Tryz.ntmps161;go_wp2;go_region;all_goals
  go_wp2;go_ret;refine⟨rfl,?_,ufa (vm (vx (vx (vx (xV _ w) 2 _) 3 _) 5 _) _)⟩;exact(((g.set2 d).set3 pos).set5 la c lc).on (Below.heap_alloc _ _ _ (by rw[uj,uj,uj];exact lb))
theorem uiO w:(zeroValue 213).run Tryz.prog w=.ok (.agg #[.int .i64 0,.bool false,.int .i64 0,.int .i64 0]) w:=(zero_of_info (P:=Tryz.prog) (t:=213) (v:=.agg #[.int .i64 0,.bool false,.int .i64 0,.int .i64 0]) (n:=4) (by kernel_rfl)).1 w
theorem uiP w:(zeroValue 218).run Tryz.prog w=.ok (.agg #[.int .i64 0,.bool false,.int .i64 0,.int .i64 0]) w:=(zero_of_info (P:=Tryz.prog) (t:=218) (v:=.agg #[.int .i64 0,.bool false,.int .i64 0,.int .i64 0]) (n:=4) (by kernel_rfl)).1 w
theorem uiQ w:(zeroValue 221).run Tryz.prog w=.ok (.agg #[.int .i64 0,.bool false]) w:=(zero_of_info (P:=Tryz.prog) (t:=221) (v:=.agg #[.int .i64 0,.bool false]) (n:=2) (by kernel_rfl)).1 w
theorem uj1 w:(Instr.typeAssert .nilIface 216 213 true).run Tryz.prog w=.ok (.tuple #[.agg #[.int .i64 0,.bool false,.int .i64 0,.int .i64 0],.bool false]) w:=by simp[Instr.typeAssert,run_underlying Tryz.underlying213,uiO]
theorem unp v w:(Instr.typeAssert (.iface 213 v) 216 213 true).run Tryz.prog w=.ok (.tuple #[v,.bool true]) w:=by simp[Instr.typeAssert,run_underlying Tryz.underlying213]
theorem unq v w:(Instr.typeAssert (.iface 218 v) 216 213 true).run Tryz.prog w=.ok (.tuple #[.agg #[.int .i64 0,.bool false,.int .i64 0,.int .i64 0],.bool false]) w:=by simp[Instr.typeAssert,run_underlying Tryz.underlying213,uiO]
theorem unr v w:(Instr.typeAssert (.iface 221 v) 216 213 true).run Tryz.prog w=.ok (.tuple #[.agg #[.int .i64 0,.bool false,.int .i64 0,.int .i64 0],.bool false]) w:=by simp[Instr.typeAssert,run_underlying Tryz.underlying213,uiO]
theorem uj2 w:(Instr.typeAssert .nilIface 216 218 true).run Tryz.prog w=.ok (.tuple #[.agg #[.int .i64 0,.bool false,.int .i64 0,.int .i64 0],.bool false]) w:=by simp[Instr.typeAssert,run_underlying Tryz.underlying218,uiP]
theorem uns v w:(Instr.typeAssert (.iface 213 v) 216 218 true).run Tryz.prog w=.ok (.tuple #[.agg #[.int .i64 0,.bool false,.int .i64 0,.int .i64 0],.bool false]) w:=by simp[Instr.typeAssert,run_underlying Tryz.underlying218,uiP]
theorem unt v w:(Instr.typeAssert (.iface 218 v) 216 218 true).run Tryz.prog w=.ok (.tuple #[v,.bool true]) w:=by simp[Instr.typeAssert,run_underlying Tryz.underlying218]
theorem unu v w:(Instr.typeAssert (.iface 221 v) 216 218 true).run Tryz.prog w=.ok (.tuple #[.agg #[.int .i64 0,.bool false,.int .i64 0,.int .i64 0],.bool false]) w:=by simp[Instr.typeAssert,run_underlying Tryz.underlying218,uiP]
theorem uj3 w:(Instr.typeAssert .nilIface 216 221 true).run Tryz.prog w=.ok (.tuple #[.agg #[.int .i64 0,.bool false],.bool false]) w:=by simp[Instr.typeAssert,run_underlying Tryz.underlying221,uiQ]
theorem unv v w:(Instr.typeAssert (.iface 213 v) 216 221 true).run Tryz.prog w=.ok (.tuple #[.agg #[.int .i64 0,.bool false],.bool false]) w:=by simp[Instr.typeAssert,run_underlying Tryz.underlying221,uiQ]
theorem unw v w:(Instr.typeAssert (.iface 218 v) 216 221 true).run Tryz.prog w=.ok (.tuple #[.agg #[.int .i64 0,.bool false],.bool false]) w:=by simp[Instr.typeAssert,run_underlying Tryz.underlying221,uiQ]
theorem unx v w:(Instr.typeAssert (.iface 221 v) 216 221 true).run Tryz.prog w=.ok (.tuple #[v,.bool true]) w:=by simp[Instr.typeAssert,run_underlying Tryz.underlying221]
attribute [local go_sem] uj1 unp unq unr uj2 uns unt unu uj3 unv unw unx
def uny(wr:World)(b:Nat):Nat:=match wr.cell? ⟨b,4,none⟩ with|some (.slice _ n _)=>n|_=>0
theorem uhv{wr b n c a}(h:wr.cell? ⟨b,4,none⟩=some (.slice a n c)):uny wr b=n:=by unfold uny;rw[h]
structure FaA(w:World)(b:Nat)(s:MSt)(ia:Option Addr)(il ic:Nat)(most:Int)(ka:Option Addr)(kc:Nat)(la:Option Addr)(ln lc k:Nat)(wr:World):Prop where
 le:k<=s.st.length
 un:uU s.st.reverse=uU (s.st.take k).reverse
 c:MacC wr b s ia il ic most ka k kc la ln lc
 only:Only (λx=>x=b) w wr
def utp(w:World)(b:Nat)(s:MSt)(a:Option Addr)(il ic:Nat)(most:Int)(ka:Option Addr)(kc:Nat)(la:Option Addr)(ln lc:Nat)(wr:World):Prop:=∃k,FaA w b s a il ic most ka kc la ln lc k wr
theorem MacC.re{w b s t a il ic most ka c kc la ln lc}(h:MacC w b s a il ic most ka c kc la ln lc)(d:t.at_=s.at_)(e:t.pos=s.pos)(f:t.far=s.far)(g:t.exp=s.exp)(i:t.steps=s.steps)(j:t.throws=s.throws)(k:t.label=s.label):MacC w b t a il ic most ka c kc la ln lc :=
 ⟨h.c0,h.c1,by rw[d];exact h.c2,by rw[e];exact h.c3,h.c4,h.c5,by rw[f];exact h.c6,by rw[g];exact h.ex,by rw[i];exact h.c8,by rw[j];exact h.c9,by rw[k];exact h.c10,h.fz⟩
theorem uhw{K L:Nat->Prop}{b:Nat}{s:MSt}{f:FrD}{l:Option Addr}{il ic:Nat}{most:Int}{ka:Option Addr}{kc:Nat}{la:Option Addr}{lc j:Nat}{w wr W:World}{e:Ending}(d:MacA K L w b s l il ic most ka kc la lc)(r:s.done=false)(n:s.st[j]?=some f)(t:f.kind≠2)(u:f.log<=s.log.length)
  (y:uU s.st.reverse=uU (s.st.take (j+1)).reverse) (i:Kept (λx=>x=b) w wr) (g:uno b { s with at_:=f.to,pos:=f.pos } l il ic most ka j kc la f.log lc wr e W):ActIs s.fail K L b l il ic most w e W:=by
 have B:=(List.getElem?_eq_some_iff.1 n).1;have v:uU s.st.reverse=some (f,(s.st.take j).reverse):=by
  rw[y,kW n,List.reverse_append];show uU (f::(s.st.take j).reverse)=_;rw[uU,if_neg t]
 have q:s.fail={ s with st:=s.st.take j,pos:=f.pos,log:=s.log.take f.log,at_:=f.to }:=by
  unfold MSt.fail;rw[v];simp only[List.reverse_reverse]
 have o:(s.st.take j).length=j:=by rw[List.length_take];omega
 have p:(s.log.take f.log).length=f.log:=by rw[List.length_take];omega
 have m:∀x,x<w.heap.size->x≠b->W.heap[x]?=w.heap[x]?:=λx a k=>(g.kept.block x (Nat.lt_of_lt_of_le a i.size) k).trans (i.block x a k)
 rw[q];refine⟨by rw[g.val];unfold jt;simp[r],f.to,s.st.take j,ka,kc,la,lc,K,L,λ_=>⟨rfl,rfl⟩,⟨?_,?_,?_,?_,d.kl,d.kb,d.lb⟩,λx a=>.inl a,λx a=>.inl a,?_⟩
 ·show MacC W b _ l il ic most ka (s.st.take j).length kc la (s.log.take f.log).length lc;rw[o,p];exact g.c.re rfl rfl rfl rfl rfl rfl rfl
 ·show OwnC K W (.slice ka (s.st.take j).length kc) 1 (s.st.take j).length (vl false (s.st.take j));rw[o,qN];have h:=kz d.st (j:=j) (by omega);rw[Nat.mul_one]at h;exact h.on (λx a=>m x (d.lt x (.inl a)) (λe=>d.kb (e▸a)))
 ·show OwnC L W (.slice la (s.log.take f.log).length lc) 3 (s.log.take f.log).length (vA (s.log.take f.log));rw[p,ucx];exact(kz d.log (j:=f.log) u).on (λx a=>m x (d.lt x (.inr a)) (λe=>d.lb (e▸a)))
 ·intro x a;have z:=g.kept.size;have A:=i.size;have:=d.lt x a;omega
 exact⟨g.kept.os.trans i.os,g.kept.tape.trans i.tape,g.kept.output.trans i.output,Nat.le_trans i.size g.kept.size,λx a k=>m x a (λe=>k (.inr (.inr e)))⟩
theorem uiR{K L b s i il ic most ka kc la lc w wr}(d:MacA K L w b s i il ic most ka kc la lc)(g:FaA w b s i il ic most ka kc la s.log.length lc 0 wr):ActIs s.fail K L b i il ic most w (.returned (.int .i64 1)) wr:=by
 have k:s.fail=s.fin 1:=by
  unfold MSt.fail;rw[g.un];rfl
 rw[k];have f:=g.only;refine⟨rfl,s.at_,[],ka,kc,la,lc,K,L,(λq=>by cases q),⟨g.c.re rfl rfl rfl rfl rfl rfl rfl,?_,?_,?_,d.kl,d.kb,d.lb⟩,λx a=>.inl a,λx a=>.inl a,⟨f.os,f.tape,f.output,by rw[f.size];exact Nat.le_refl _,λx a l=>f.block x (λe=>l (.inr (.inr e)))⟩⟩
 ·have h:=kz d.st (j:=0) (by omega);exact h.on (λx a=>f.block x (λe=>d.kb (e▸a)))
 ·exact d.log.on (λx a=>f.block x (λe=>d.lb (e▸a)))
 intro x a;rw[f.size];exact d.lt x a
theorem ju K L b s p il ic most ka kc la lc w(G:MacA K L w b s p il ic most ka kc la lc)(z:s.st.length<=1000)(hd:s.done=false)(ac:∀f,f∈s.st->f.kind≠2->f.log<=s.log.length)(ab:∀f,f∈s.st->f.kind=0\/f.kind=1\/f.kind=2) :
  Calls Tryz.prog 149 #[.pointer (some ⟨b,0,none⟩)] w (ActIs s.fail K L b p il ic most w):=by
 have q:=ua G;have Y:=ua ac;have X:=ua ab;have Z:=ua z;obtain⟨ln,S⟩:=nm s.log.length;have t:=ua S;have Q:=ua hd;have lb:=G.bl;have h0:FaA w b s p il ic most ka kc la ln lc s.st.length w:=⟨Nat.le_refl _,by rw[List.take_of_length_le (Nat.le_refl _)],by have:=G.c;rw[S]at this;exact this,Only.refl _ _⟩;have U:=ua h0;go_enter Tryz.func149,Tryz.ntmps149;go_wp2;go_loopw [7] (λ_ wr=>utp w b s p il ic most ka kc la ln lc wr) (λ_ wr=>uny wr b)
 case atStart=>exact⟨_,U⟩
 case round =>
  obtain⟨k,r⟩:=hrel;have n:=ua r;have ae:b<wr.heap.size:=by rw[r.only.size];exact lb
  have A:=r.c.c4;have F:=r.c.fz 4;rcases Nat.eq_zero_or_pos k with T|T
  ·subst T;go_wp2_with (go_at_call 153;refine(ufd b ka kc _ A).mono ?_;rintro e W ⟨rfl,H⟩;subst W);go_ret;have h:=n;rw[<-t.out]at h;exact uiR q h
  obtain⟨j,rfl⟩:∃j,k=j+1:=⟨k-1,by omega⟩;have R:=r.le;have I:=List.getElem?_eq_getElem R;have J:=List.getElem_mem R;generalize s.st[j]=d at I J;have o:=Y d J;rw[t.out]at o;have i:=X d J;have C:=ua I;have E:=ua r.un;obtain⟨g,rfl,hg,ad,l⟩:∃g,ka=some ⟨g,0,none⟩/\K g/\s.st.length<=kc/\w.cell? ⟨g,j,none⟩=some (frC d ((s.st.take (j+1)).any (λf=>f.kind==1))):=by
   rcases q.st with⟨_,e,_⟩|⟨g,cap,e,hq,h3,h4,h5,h6⟩
   ·omega
   injection e with e1 e2 e3;exact⟨g,e1,hq,by omega,by rw[h5 j (by rw[uaW];omega),uaX s.st false j d I,Bool.false_or]⟩
  have N:j<=1000:=by have:=Z;omega
  have O:j+1<=kc:=by omega
  have aa:g≠b:=λe=>q.kb (e▸hg)
  replace l:=(World.cell?_of_block (a:=⟨g,j,none⟩) (r.only.block g aa)).trans l;generalize (s.st.take (j+1)).any (λf=>f.kind==1)=nn at l;have lg:=ud l;unfold frC at l;rcases i with i|i|i
  ·rw[if_pos i]at l;have v:Hid (d.kind≠2):=(by show d.kind≠2;rw[i];decide);rw[i]at o;replace o:=o (by decide);go_wp2_with fail;refine(ual b g j kc _ _ A F l N O).mono ?_;rintro e W ⟨rfl,H⟩;subst W;have D:Hid (Only (λx=>x=b) w (wr.setCell ⟨b,4,none⟩ (.slice (some ⟨g,0,none⟩) j kc))):=n.out.only.set b 4 _ rfl;have u:Hid (MacC (wr.setCell ⟨b,4,none⟩ (.slice (some ⟨g,0,none⟩) j kc)) b s p il ic most (some ⟨g,0,none⟩) j kc la ln lc):=n.out.c.set4 _ _ _;generalize wr.setCell ⟨b,4,none⟩ (.slice (some ⟨g,0,none⟩) j kc)=V at *;have P:=ud u.c0;go_wp2_with fail;refine(udJ b s p il ic most (some ⟨g,0,none⟩) j kc la ln lc d.to d.pos d.log _ (u.on (Below.heap_alloc _ _ _ P)) (by have:=xA q.log;rw[t.out]at this;omega)).mono ?_;rintro e W y;obtain rfl:=y.val;have B:=ua y;go_wp2;go_ret;refine uhw q Q C v (by rw[t.out];exact o) E ?_ B;have m:=D;exact vm ⟨m.os,m.tape,m.output,by rw[m.size];exact Nat.le_refl _,λx hx z=>m.block x z⟩ _
  ·rw[if_neg (by rw[i];decide),if_pos i]at l;have v:Hid (d.kind≠2):=(by show d.kind≠2;rw[i];decide);rw[i]at o;replace o:=o (by decide);go_wp2_with fail;refine(ual b g j kc _ _ A F l N O).mono ?_;rintro e W ⟨rfl,H⟩;subst W;have D:Hid (Only (λx=>x=b) w (wr.setCell ⟨b,4,none⟩ (.slice (some ⟨g,0,none⟩) j kc))):=n.out.only.set b 4 _ rfl;have u:Hid (MacC (wr.setCell ⟨b,4,none⟩ (.slice (some ⟨g,0,none⟩) j kc)) b s p il ic most (some ⟨g,0,none⟩) j kc la ln lc):=n.out.c.set4 _ _ _;generalize wr.setCell ⟨b,4,none⟩ (.slice (some ⟨g,0,none⟩) j kc)=V at *;have P:=ud u.c0;go_wp2_with fail;refine(udJ b s p il ic most (some ⟨g,0,none⟩) j kc la ln lc d.to d.pos d.log _ (u.on (Below.heap_alloc _ _ _ P)) (by have:=xA q.log;rw[t.out]at this;omega)).mono ?_;rintro e W y;obtain rfl:=y.val;have B:=ua y;go_wp2;go_ret;refine uhw q Q C v (by rw[t.out];exact o) E ?_ B;have m:=D;exact vm ⟨m.os,m.tape,m.output,by rw[m.size];exact Nat.le_refl _,λx hx z=>m.block x z⟩ _
  rw[if_neg (by rw[i];decide),if_neg (by rw[i];decide)]at l;have v:=ua i;go_wp2_with (go_at_call 153;refine(ual b g j kc _ _ A F l N O).mono ?_;rintro e W ⟨rfl,H⟩;subst W);go_roundw
  case rel =>
   refine⟨j,?_,?_,n.c.set4 _ _ _,n.only.set b 4 _ rfl⟩
   ·have:=n.le;omega
   rw[E.out,kW C.out,qU _ _ v.out]
  case measure =>
   rw[uhv (n.out.c.set4 (some ⟨g,0,none⟩) j kc).c4,uhv n.out.c.c4];omega
structure urQ(b:Nat)(s:MSt)(ia:Option Addr)(il ic:Nat)(most:Int)(ka:Option Addr)(kn kc:Nat)(la:Option Addr)(ln lc:Nat)(w:World)(e:Ending)(w':World):Prop where
 val:∃v,e=.returned v
 c:MacC w' b s ia il ic most ka kn kc la ln lc
 kept:Kept (λx=>x=b) w w'
theorem upO:(Tryz.prog.info? 92).map (λi=>(i.zero,i.size))=some (some (.agg (madeCells #[.bool false] 256)),256):=by kernel_rfl
theorem udK{v n i}(h:i<n):(madeCells #[v] n)[i]?=some v:=by
 simp[madeCells,h,Nat.mod_one]
theorem uiS{P w Y W}(h:Below w.heap.size w Y)(k:Kept P Y W):Kept P w W :=
 ⟨k.os.trans h.os,k.tape.trans h.tape,k.output.trans h.output,Nat.le_trans h.size k.size,λx a b=>(k.block x (Nat.lt_of_lt_of_le a h.size) b).trans (h.block x a)⟩
theorem yF{P w Y W}(h:Kept P w Y)(k:Kept P Y W):Kept P w W :=
 ⟨k.os.trans h.os,k.tape.trans h.tape,k.output.trans h.output,Nat.le_trans h.size k.size,λx b a=>(k.block x (Nat.lt_of_lt_of_le b h.size) a).trans (h.block x b a)⟩
theorem MacC.add{w w' b s a il ic most ka c kc la ln lc N e}(h:MacC w b s a il ic most ka c kc la ln lc)(k:ung b 7 N w e w'):MacC w' b { s with exp:=N } a il ic most ka c kc la ln lc :=
 ⟨(k.rest 0 (by omega)).trans h.c0,(k.rest 1 (by omega)).trans h.c1,(k.rest 2 (by omega)).trans h.c2,(k.rest 3 (by omega)).trans h.c3,(k.rest 4 (by omega)).trans h.c4,(k.rest 5 (by omega)).trans h.c5,(k.rest 6 (by omega)).trans h.c6,k.mem,(k.rest 263 (by omega)).trans h.c8,(k.rest 264 (by omega)).trans h.c9,(k.rest 265 (by omega)).trans h.c10,λj=>(k.frz j).trans (h.fz j)⟩
theorem MacC.clear{w b s d il ic most ka e kc la ln lc}(h:MacC w b s d il ic most ka e kc la ln lc)c(g:c.length=256)(l:∀i,i<256->c[i]?=some (.bool false)):MacC (w.setCells b 7 c) b { s with exp:=λ_=>false } d il ic most ka e kc la ln lc:=by
 have a:∀j,(j<7\/263<=j)->(w.setCells b 7 c).cell? ⟨b,j,none⟩=w.cell? ⟨b,j,none⟩:=λj m=>World.cell?_setCells_out b c 7 w ⟨b,j,none⟩ (λ_ _=>by rw[g];show j<7\/7+256<=j;omega)
 refine⟨(a 0 (by omega)).trans h.c0,(a 1 (by omega)).trans h.c1,(a 2 (by omega)).trans h.c2,(a 3 (by omega)).trans h.c3,(a 4 (by omega)).trans h.c4,(a 5 (by omega)).trans h.c5,(a 6 (by omega)).trans h.c6,λi f=>?_,(a 263 (by omega)).trans h.c8,(a 264 (by omega)).trans h.c9,(a 265 (by omega)).trans h.c10,λj=>(World.frozen?_setCells _ _ _ _ _).trans (h.fz j)⟩;rw[World.cell?_setCells_in b c 7 w (λk n=>by rw[h.ex k (by omega)];rfl) i (by omega)];have:=l i f;rw[List.getElem?_eq_getElem (by omega)]at this;exact this
theorem uer{w W b}(h:Kept (λx=>x=b) w W)j a:Kept (λx=>x=b) w (W.setCells b j a):=by
 obtain⟨e,f,g⟩:=qu b a j W;exact⟨e.trans h.os,f.trans h.tape,g.trans h.output,by rw[yx];exact h.size,λx d c=>(xY b a j W x c).trans (h.block x d c)⟩
theorem uhx Q b s r il ic most ka t kc la ln lc a n c S w(z:MacC w b s r il ic most ka t kc la ln lc)(R:Ints Q .i64 w a n S)(X:¬Q b)(U:∀x,Q x->x<w.heap.size)(V:n<=1048576) :
  Calls Tryz.prog 148 #[.pointer (some ⟨b,0,none⟩),.slice a n c] w (urQ b (s.note n S) r il ic most ka t kc la ln lc w):=by
 have C:=ua z;have O:=ua R;have N:=ua X;have L:=ua U;have lb:=ud z.c0;have c3:=z.c3;have g:=z.c6;have hz:=(zero_of_info (P:=Tryz.prog) upO).1;clear z R X U;by_cases ab:(s.far:Int)<(s.pos:Int)
 ·have y:Hid (s.note n S={ s with far:=s.pos,exp:=λi=>yr n S (i:Int) }):=by show _=_;unfold MSt.note;rw[if_pos (by omega)]
  have G:=C.fz 6;go_enter Tryz.func148,Tryz.ntmps148;go_wp2;go_quiet (fail);have f:Below w.heap.size w (w.drewN nq):=below_drewN (Below.refl _ _) nq;generalize w.drewN nq=Y at *;have HY:=ua f;have m:=ua (C.on (f.block b lb));have ac:=Nat.lt_of_lt_of_le lb f.size;clear f c3 g G;have c3:=m.c3;have g:=m.c6;have G:=m.fz 6;have F:(madeCells #[Value.bool false] 256).size=256:=size_madeCells _ _;have T:=run_storeCells_cells (P:=Tryz.prog) b 7 (madeCells #[Value.bool false] 256).toList 0 (Y.setCell ⟨b,6,none⟩ (.int .i64 (s.pos:Int))) (λj J=>by
    rw[Array.length_toList,F]at J;rw[Nat.add_zero,um (by omega),m.out.ex j J];rfl) (λj J=>(World.frozen?_setCell _ _ _ _).trans (m.fz _)) (λv hv=>by
    obtain⟨i,A,e⟩:=List.mem_iff_getElem.1 hv;have E:=udK (v:=.bool false) (n:=256) (i:=i) (by rw[Array.length_toList,F]at A;exact A);rw[<-Array.getElem?_toList,List.getElem?_eq_getElem A,e]at E;injection E with E;rw[E];rfl)
  rw[Nat.add_zero]at T;go_wp2;generalize I:(Y.setCell ⟨b,6,none⟩ (.int .i64 (s.pos:Int))).setCells b 7 (madeCells #[Value.bool false] 256).toList=Z;have d:MacC Z b { s with far:=s.pos,exp:=λ_=>false } r il ic most ka t kc la ln lc:=by
   rw[<-I];exact(m.set6 s.pos).clear _ (by rw[Array.length_toList,F]) (λi A=>by rw[Array.getElem?_toList];exact udK A)
  have l:Kept (λx=>x=b) w Z:=by
   rw[<-I];exact uiS HY (uer (vx (xV _ Y) 6 _) 7 _)
  clear I T F c3 g G hz m;have aa:=ud d.c0;have c3:=d.c3;have g:=d.c6;have q:((s.pos:Int)==(s.pos:Int))=true:=by simp
  go_quiet (fail);have k:Hid (MacC (Z.drewN nq) b { s with far:=s.pos,exp:=λ_=>false } r il ic most ka t kc la ln lc):=d.on rfl;have o:Hid (Kept (λx=>x=b) w (Z.drewN nq)):=uaY l _;generalize Z.drewN nq=D at *;clear d l c3 g;go_wp2_with fail;have H:Ints Q .i64 D a n S:=O.on (λx B=>o.block x (by have:=L x B;exact this) (λe=>N (e▸B)));refine(uby Q b 7 _ a n c S _ V H k.out.ex k.out.fz).mono ?_;rintro e W p;obtain⟨v,rfl⟩:=p.val;have u:=ua p;clear p;go_wp2;refine bodyPost_ret (results_none rfl _ _ _) rfl ?_;rw[y.out];refine⟨⟨_,rfl⟩,?_,yF o u.kept⟩;have h:=k.add u;simp only[Bool.or_false]at h;exact h
 have hgt':¬(s.far:Int)<(s.pos:Int):=ab;by_cases q:s.pos=s.far
 ·have y:Hid (s.note n S={ s with exp:=λi=>yr n S (i:Int)||s.exp i }):=by show _=_;unfold MSt.note;rw[if_neg (by omega),if_pos q]
  have heq':((s.pos:Int)==(s.far:Int))=true:=by simp[q]
  clear q;go_enter Tryz.func148,Tryz.ntmps148;go_wp2;go_quiet (fail);have f:Below w.heap.size w (w.drewN nq):=below_drewN (Below.refl _ _) nq;generalize w.drewN nq=Z at *;have d:=C.on (f.block b lb);have l:Kept (λx=>x=b) w Z:=Kept.of f;have aa:=Nat.lt_of_lt_of_le lb f.size;clear f c3 g;have c3:=d.c3;have g:=d.c6;go_wp2;go_quiet (fail);have k:Hid (MacC (Z.drewN nq) b s r il ic most ka t kc la ln lc):=d.on rfl;have o:Hid (Kept (λx=>x=b) w (Z.drewN nq)):=uaY l _;generalize Z.drewN nq=D at *;clear d l c3 g;go_wp2_with fail;have H:Ints Q .i64 D a n S:=O.on (λx B=>o.block x (by have:=L x B;exact this) (λe=>N (e▸B)));refine(uby Q b 7 _ a n c S _ V H k.out.ex k.out.fz).mono ?_;rintro e W p;obtain⟨v,rfl⟩:=p.val;have u:=ua p;clear p;go_wp2;refine bodyPost_ret (results_none rfl _ _ _) rfl ?_;rw[y.out];exact⟨⟨_,rfl⟩,k.add u,yF o u.kept⟩
 have y:Hid (s.note n S=s):=by show _=_;unfold MSt.note;rw[if_neg (by omega),if_neg q]
 have heq':((s.pos:Int)==(s.far:Int))=false:=by simp;omega
 clear q;go_enter Tryz.func148,Tryz.ntmps148;go_wp2;go_quiet (fail);have f:Below w.heap.size w (w.drewN nq):=below_drewN (Below.refl _ _) nq;generalize w.drewN nq=Z at *;have d:=C.on (f.block b lb);have l:Kept (λx=>x=b) w Z:=Kept.of f;have aa:=Nat.lt_of_lt_of_le lb f.size;clear f c3 g;have c3:=d.c3;have g:=d.c6;go_wp2;go_quiet (fail);have k:Hid (MacC (Z.drewN nq) b s r il ic most ka t kc la ln lc):=d.on rfl;have o:Hid (Kept (λx=>x=b) w (Z.drewN nq)):=uaY l _;generalize Z.drewN nq=D at *;clear d l c3 g;go_wp2;refine bodyPost_ret (results_none rfl _ _ _) rfl ?_;rw[y.out];exact⟨⟨_,rfl⟩,k.out,o.out⟩
end Go.Proofs.YtimfigongapdnaaGreat
