import Derived.Test.YthicmmhmmfhncaaGreatT03
import Derived.Deep.AppendSrc
import Derived.OwnWalk
import Derived.Test.YthicmmhmmfhncaaGreatT01
set_option linter.unusedVariables false
set_option linter.unusedSimpArgs false
namespace Go.Proofs.YthicmmhmmfhncaaGreat
section
open Go.RowKit
def Wr(w:World)(g n:Nat):Prop:=∀j,j<n→(w.cell? ⟨g,j,none⟩).isSome=true∧w.frozen? ⟨g,j,none⟩=false
def OwnC(Q:Nat→Prop)(w:World)(v:Value)(sz n:Nat)(cs:List Value):Prop :=
 (v=.slice none 0 0∧n=0∧cs = [])∨∃g cap,v=.slice (some ⟨g,0,none⟩) n cap∧Q g∧cs.length=n*sz∧n≤cap∧(∀j,j<cs.length→w.cell? ⟨g,j,none⟩=cs[j]?)∧Wr w g (cap*sz)
structure Grew(Q:Nat→Prop)(w w':World):Prop where
 os:w'.os=w.os
 tape:w'.tape=w.tape
 output:w'.output=w.output
 size:w.heap.size≤w'.heap.size
 block:∀b,b<w.heap.size→¬Q b→w'.heap[b]? = w.heap[b]?
 frozen:∀b o,b<w.heap.size→w'.frozen? ⟨b,o,none⟩=w.frozen? ⟨b,o,none⟩
 fresh:∀b o,w.heap.size≤b→b<w'.heap.size→w'.frozen? ⟨b,o,none⟩=false
theorem Soft.grew{Q:Nat→Prop}{w0 w w':World}(h:Soft w0 w)(g:Grew Q w w'):Soft w0 w':=fun b o h1 h2=>by
 by_cases e:b<w.heap.size
 ·rw[g.frozen b o e];exact h b o h1 e
 ·exact g.fresh b o (by omega) h2
theorem Wr.later{w w':World}{g n:Nat}(h:Wr w g n)(k:w'.heap[g]? = w.heap[g]?):Wr w' g n:=fun j hj=>by
 rw[World.cell?_of_block (a:=⟨g,j,none⟩) k,World.frozen?_of_block (a:=⟨g,j,none⟩) k];exact h j hj
theorem OwnC.on{Q:Nat→Prop}{w w':World}{v:Value}{sz n:Nat}{cs:List Value}(h:OwnC Q w v sz n cs)(k:Stay Q w w'):OwnC Q w' v sz n cs:=by
 rcases h with h | ⟨g,cap,h1,h2,h3,h4,h5,h6⟩
 ·exact .inl h
 ·exact .inr ⟨g,cap,h1,h2,h3,h4,fun j hj=>by rw[World.cell?_of_block (a:=⟨g,j,none⟩) (k g h2)];exact h5 j hj,h6.later (k g h2)⟩
theorem qh(g:Nat):∀(vs:List Value) (o:Nat) (w:World) (b:Nat),b≠g→(w.setCells g o vs).heap[b]? = w.heap[b]?
 | [],_,_,_,_=>rfl
 |v::r,o,w,b,h=>by
  show ((w.setCell ⟨g,o,none⟩ v).setCells g (o+1) r).heap[b]? = _;rw[qh g r (o+1) _ b h,Below.heap_setCell _ _ _ _ h]
theorem xH(g:Nat):∀(vs:List Value) (o:Nat) (w:World),(w.setCells g o vs).heap.size=w.heap.size
 | [],_,_=>rfl
 |v::r,o,w=>by
  show ((w.setCell ⟨g,o,none⟩ v).setCells g (o+1) r).heap.size=_;rw[xH g r (o+1) _,ul]
theorem ucz(g:Nat):∀(vs:List Value) (o:Nat) (w:World),(w.setCells g o vs).os=w.os∧(w.setCells g o vs).tape=w.tape∧(w.setCells g o vs).output=w.output
 | [],_,_=>⟨rfl,rfl,rfl⟩
 |v::r,o,w=>ucz g r (o+1) (w.setCell ⟨g,o,none⟩ v)
theorem ukQ{Q:Nat→Prop}{w:World}{v x:Value}{sz n m:Nat}{cs news:List Value}{t tx e:TypeId}(ty:TypeId){i:TypeInfo}{z:Value}{bytes:Nat}(ht:Tryz.prog.underlying t=some (.slice e))(hi:Tryz.prog.info? e=some i)(hz0:i.zero=some z)(hz1:i.size=sz)(hz2:i.bytes=bytes)
  (hzc:z.cells.size=sz) (hown:OwnC Q w v sz n cs) (hs:Src Tryz.prog sz tx x m news w) (hlen:n+m≤16777216) (hb:bytes≤64) (hm:v=.slice none 0 0→0<m) :
  ∃v' w',(Builtin.append_ #[t,tx] ty #[v,x]).run Tryz.prog w=.ok v' w'∧OwnC (fun b=>Q b∨w.heap.size≤b) w' v' sz (n+m) (cs++news)∧Grew (fun b=>Q b) w w'∧w'.heap.size≤w.heap.size+1:=by
 subst hz1;have grow:∀(base:Option Addr) (cap:Nat) (hf:(Builtin.firstCells i.size n (.slice base n cap)).run Tryz.prog w.drew=.ok cs.toArray w.drew),cs.length=n*i.size→cap<n+m→v=.slice base n cap →
   ∃v' w',(Builtin.append_ #[t,tx] ty #[v,x]).run Tryz.prog w=.ok v' w'∧OwnC (fun b=>Q b∨w.heap.size≤b) w' v' i.size (n+m) (cs++news)∧Grew (fun b=>Q b) w w'∧w'.heap.size≤w.heap.size+1:=by
  rintro base cap hf hcl hfull rfl;have hr:=run_append_grow_src (P:=Tryz.prog) w t tx ty e i z ht hi hz0 base n cap cs hf x m news hs hfull (by omega) (by rw[hz2];exact growslice_fits hfull (by have:(n+m)*bytes≤16777216*64:=Nat.mul_le_mul hlen hb;omega))
  have hge:=grownCap_ge w (n+m) cap e;refine⟨_,_,hr,.inr ⟨w.heap.size,_,rfl,.inr (Nat.le_refl _),by rw[List.length_append,hcl,hs.newsLen,Nat.add_mul],hge,fun j hj=>?_,fun j hj=>⟨?_,?_⟩⟩,⟨rfl,rfl,rfl,by simp,fun b hb _=>Below.heap_alloc w.drew _ _ hb,fun b o hb=>World.frozen?_of_block (a:=⟨b,o,none⟩) (Below.heap_alloc w.drew _ _ hb),fun b o h1 h2=>uiF w.drew _ e b o h1 h2⟩,by simp⟩
  ·have h:=World.alloc_heap_new w.drew (Obj.cells ((cs++news).toArray++Builtin.zeroCells z.cells (grownCap w (n+m) cap e-(n+m))) e)
   have h':(w.drew.alloc (Obj.cells ((cs++news).toArray++Builtin.zeroCells z.cells (grownCap w (n+m) cap e-(n+m))) e)).heap[w.heap.size]? = some (Obj.cells ((cs++news).toArray++Builtin.zeroCells z.cells (grownCap w (n+m) cap e-(n+m))) e):=h;simp only[World.cell?,h'];rw[Array.getElem?_append_left (by simpa using hj)]
   simp
  ·have h:=World.alloc_heap_new w.drew (Obj.cells ((cs++news).toArray++Builtin.zeroCells z.cells (grownCap w (n+m) cap e-(n+m))) e)
   have h':(w.drew.alloc (Obj.cells ((cs++news).toArray++Builtin.zeroCells z.cells (grownCap w (n+m) cap e-(n+m))) e)).heap[w.heap.size]? = some (Obj.cells ((cs++news).toArray++Builtin.zeroCells z.cells (grownCap w (n+m) cap e-(n+m))) e):=h;simp only[World.cell?,h'];have hsz:((cs++news).toArray++Builtin.zeroCells z.cells (grownCap w (n+m) cap e-(n+m))).size=grownCap w (n+m) cap e*i.size:=by
    simp only[Array.size_append,List.size_toArray,List.length_append,hcl,hs.newsLen,size_zeroCells,hzc];generalize grownCap w (n+m) cap e=G at hge ⊢;obtain⟨k,rfl⟩:∃k,G=n+m+k:=⟨G-(n+m),by omega⟩
    rw[show n+m+k-(n+m)=k by omega,Nat.add_mul,Nat.add_mul]
   rw[Array.getElem?_eq_getElem (by rw[hsz];exact hj)]
   rfl
  ·have h:=World.alloc_heap_new w.drew (Obj.cells ((cs++news).toArray++Builtin.zeroCells z.cells (grownCap w (n+m) cap e-(n+m))) e)
   have h':(w.drew.alloc (Obj.cells ((cs++news).toArray++Builtin.zeroCells z.cells (grownCap w (n+m) cap e-(n+m))) e)).heap[w.heap.size]? = some (Obj.cells ((cs++news).toArray++Builtin.zeroCells z.cells (grownCap w (n+m) cap e-(n+m))) e):=h;simp only[World.frozen?,h'];simp
 rcases hown with⟨rfl,rfl,rfl⟩|⟨g,cap,rfl,hQ,hcl,hnc,hc,hw⟩
 ·exact grow none 0 (by rw[run_firstCells_none]) (by simp) (by have:=hm rfl;omega) rfl
 ·by_cases hroom:n+m≤cap
  ·have hr:=run_append_room_src (P:=Tryz.prog) w t tx ty e i ht hi g 0 n cap x m news hs hroom
    (fun j hj=>by rw[Nat.zero_add];rw[hs.newsLen]at hj;exact (hw _ (by have:(n+m)*i.size≤cap*i.size:=Nat.mul_le_mul_right _ hroom;rw[Nat.add_mul]at this;omega)).1)
    (fun j hj=>by rw[Nat.zero_add];rw[hs.newsLen]at hj;exact (hw _ (by have:(n+m)*i.size≤cap*i.size:=Nat.mul_le_mul_right _ hroom;rw[Nat.add_mul]at this;omega)).2)
   rw[Nat.zero_add]at hr;have hcap:(n+m)*i.size≤cap*i.size:=Nat.mul_le_mul_right _ hroom;rw[Nat.add_mul]at hcap;have hnl:=hs.newsLen;obtain⟨o1,o2,o3⟩:=ucz g news (n*i.size) w;refine⟨_,_,hr,.inr ⟨g,cap,rfl,.inl hQ,by rw[List.length_append,hcl,hs.newsLen,Nat.add_mul],by omega,fun j hj=>?_,fun j hj=>⟨?_,?_⟩⟩,⟨o1,o2,o3,by rw[xH];exact Nat.le_refl _,fun b _ hb=>qh g _ _ _ _ (fun e=>hb (e▸hQ)),fun b o _=>World.frozen?_setCells _ _ _ _ _,fun b o h1 h2=>by rw[xH]at h2;omega⟩,by rw[xH];omega⟩
   ·rw[List.length_append,hnl]at hj
    by_cases hlt:j<n*i.size
    ·rw[World.cell?_setCells_out g _ _ w _ (fun _ _=>Or.inl hlt),List.getElem?_append_left (by omega)]
     exact hc j (by omega)
    ·have h2:=World.cell?_setCells_in g news (n*i.size) w (fun k hk=>(hw _ (by omega)).1) (j-n*i.size) (by omega)
     rw[show n*i.size+(j-n*i.size)=j by omega]at h2
     rw[h2,List.getElem?_append_right (by omega),hcl,List.getElem?_eq_getElem (by omega)]
   ·by_cases hin:n*i.size≤j∧j<n*i.size+news.length
    ·have h2:=World.cell?_setCells_in g news (n*i.size) w (fun k hk=>(hw _ (by omega)).1) (j-n*i.size) (by omega)
     rw[show n*i.size+(j-n*i.size)=j by omega]at h2
     rw[h2];rfl
    ·rw[World.cell?_setCells_out g _ _ w _ (fun _ _=>by simp;omega)]
     exact (hw j hj).1
   ·rw[World.frozen?_setCells]
    exact (hw j hj).2
  ·exact grow (some ⟨g,0,none⟩) cap (run_firstCells_some (P:=Tryz.prog) w.drew i.size n ⟨g,0,none⟩ n cap cs hcl (fun j u hu=>by
    have hj:j<cs.length:=(List.getElem?_eq_some_iff.1 hu).1;have e':(⟨g,0,none⟩:Addr).add j=⟨g,j,none⟩:=by
     by_cases h0:j=0
     ·subst h0;simp[Addr.add]
     ·simp[Addr.add,h0]
    rw[e',←hu];exact hc j hj)) hcl (by omega) rfl
structure xM(t e:TypeId)(sz bytes:Nat):Prop where
 und:Tryz.prog.underlying t=some (.slice e)
 info:∃z,(Tryz.prog.info? e).map (fun i=>(i.zero,i.size,i.bytes))=some (some z,sz,bytes)∧z.cells.size=sz
 bytes:bytes≤64
theorem qA{Q:Nat→Prop}{w:World}{v x:Value}{sz bytes n m:Nat}{cs news:List Value}{t tx e:TypeId}(ty:TypeId)(hE:xM t e sz bytes)(hown:OwnC Q w v sz n cs)(hs:Src Tryz.prog sz tx x m news w)(hlen:n+m≤16777216)(hm:v=.slice none 0 0→0<m) :
  ∃v' w',(Builtin.append_ #[t,tx] ty #[v,x]).run Tryz.prog w=.ok v' w'∧OwnC (fun b=>Q b∨w.heap.size≤b) w' v' sz (n+m) (cs++news)∧Grew (fun b=>Q b) w w'∧w'.heap.size≤w.heap.size+1:=by
 obtain⟨z,hi,hzc⟩:=hE.info;obtain⟨i,hi',hzz⟩:=Option.map_eq_some_iff.1 hi;simp only[Prod.mk.injEq]at hzz;obtain⟨hz0,hz1,hz2⟩:=hzz;exact ukQ ty hE.und hi' hz0 hz1 hz2 hzc hown hs hlen hE.bytes hm
theorem uqi{ops:Array Oper}{rest:List Oper}{o:Oper}{a:Act}{P':Exit→Act→World→Prop}{w:World}(hgd:o.guard=none)(s x:Operand)(t tx:TypeId)(ho:o.op=.call { callee:=.builtin .append,args:=#[s,x],argTypes:=#[t,tx] })
  {Q:Nat→Prop} {v y:Value} {e:TypeId} {sz bytes n m:Nat} {cs news:List Value} (hs:a.eval s=v) (hx:a.eval x=y) (hE:xM t e sz bytes) (hown:OwnC Q w v sz n cs) (hsrc:Src Tryz.prog sz tx y m news w) (hlen:n+m≤16777216) (hm:v=.slice none 0 0→0<m)
  (h:∀v' w',OwnC (fun b=>Q b∨w.heap.size≤b) w' v' sz (n+m) (cs++news)→Grew (fun b=>Q b) w w'→w'.heap.size≤w.heap.size+1→wpList Tryz.prog ops P' rest (a.put o.dst v') w'):wpList Tryz.prog ops P' (o::rest) a w:=by
 refine wpList_plain hgd fun K hK=>?_
 obtain⟨v',w',hr,h1,h2,h3⟩:=qA o.type hE hown hsrc hlen hm;unfold Oper.wp execOp;simp only[ho,resolve,invoke,builtin,Sem.run_bind,Sem.run_pure,Result.andThen_ok,List.map_toArray,List.map_cons,List.map_nil,hs,hx,hr];exact hK _ _ (h v' w' h1 h2 h3)
theorem uom{ops:Array Oper}{o:Oper}{a:Act}{w:World}{K:Act→World→Prop}{P':Exit→Act→World→Prop}{E:Prop}(hgd:o.guard=none)(s x:Operand)(t tx:TypeId)(ho:o.op=.call { callee:=.builtin .append,args:=#[s,x],argTypes:=#[t,tx] })
  {Q:Nat→Prop} {v y:Value} {e:TypeId} {sz bytes n m:Nat} {cs news:List Value} (hs:a.eval s=v) (hx:a.eval x=y) (hE:xM t e sz bytes) (hown:OwnC Q w v sz n cs) (hsrc:Src Tryz.prog sz tx y m news w) (hlen:n+m≤16777216) (hm:v=.slice none 0 0→0<m)
  (h:∀v' w',OwnC (fun b=>Q b∨w.heap.size≤b) w' v' sz (n+m) (cs++news)→Grew (fun b=>Q b) w w'→w'.heap.size≤w.heap.size+1→K (a.put o.dst v') w'):if Region.wanted o (yielded ops a.tmps)=true then Oper.wp Tryz.prog o a w K P' else E:=by
 have hw:Region.wanted o (yielded ops a.tmps)=true:=by simp[Region.wanted,hgd]
 rw[if_pos hw];obtain⟨v',w',hr,h1,h2,h3⟩:=qA o.type hE hown hsrc hlen hm;unfold Oper.wp execOp;simp only[ho,resolve,invoke,builtin,Sem.run_bind,Sem.run_pure,Result.andThen_ok,List.map_toArray,List.map_cons,List.map_nil,hs,hx,hr];exact h v' w' h1 h2 h3
theorem ufl:xM 49 3 1 8:=⟨Tryz.underlying49,⟨_,uoZ,rfl⟩,by omega⟩
theorem ufm:xM 22 5 1 1:=⟨Tryz.underlying22,⟨_,upX,rfl⟩,by omega⟩
theorem jk:xM 37 72 3 40:=⟨Tryz.underlying37,⟨_,uo0,rfl⟩,by omega⟩
theorem uae:xM 23 39 2 48:=⟨Tryz.underlying23,⟨_,uo1,rfl⟩,by omega⟩
end
section
open Go.RowKit
open M (OpD uj Gr uet)
theorem um{Q:Nat→Prop}{w:World}{v:Value}{sz n:Nat}{cs:List Value}(h:OwnC Q w v sz n cs):∃a c,v=.slice a n c:=by
 rcases h with⟨rfl,rfl,_⟩|⟨g,cap,rfl,_⟩
 ·exact⟨none,0,rfl⟩
 ·exact⟨_,_,rfl⟩
theorem uo{Q Q':Nat→Prop}{w:World}{v:Value}{sz n:Nat}{cs:List Value}(h:OwnC Q w v sz n cs)(k:∀b,Q b→Q' b):OwnC Q' w v sz n cs:=by
 rcases h with h | ⟨g,cap,e,hq,h3⟩
 ·exact .inl h
 ·exact .inr ⟨g,cap,e,k g hq,h3⟩
end
section
open Go.RowKit
open M (OpD uj Gr uet EX ins)
theorem ugo{w:World}{x:Value}{sz bytes:Nat}{news:List Value}{t tx e:TypeId}(ty:TypeId)(hE:xM t e sz bytes)(hs:Src Tryz.prog sz tx x 0 news w) :
  (Builtin.append_ #[t,tx] ty #[.slice none 0 0,x]).run Tryz.prog w=.ok (.slice none 0 0) w:=by
 obtain⟨z,hi,hzc⟩:=hE.info;obtain⟨i,hi',hzz⟩:=Option.map_eq_some_iff.1 hi;simp only[Prod.mk.injEq]at hzz;obtain⟨hz0,hz1,hz2⟩:=hzz;have hc:=hs.cells;rw[←hz1]at hc;rcases hs.kind with⟨e',hk⟩ | hk<;>simp[Builtin.append_,run_underlying hE.und,run_underlying hk,sizeOf,typeInfo,hi',hs.len,hc]
end
section
open Go.RowKit
def uz(k:IntKind)(S:Nat→Int)(n:Nat):List Value:=(List.range n).map fun i=>.int k (S i)
theorem xy(k:IntKind)(S:Nat→Int)(n:Nat):(uz k S n).length=n:=by simp[uz]
theorem ub9{k:IntKind}{S:Nat→Int}{n i:Nat}(h:i<n):(uz k S n)[i]? = some (.int k (S i)):=by simp[uz,h]
theorem ujJ(k:IntKind)(S:Nat→Int)(n:Nat):∀u∈uz k S n,u.oneCell'=true:=by
 intro u hu;obtain⟨i,_,rfl⟩:=List.mem_map.1 hu;rfl
theorem Ints.src{Q:Nat→Prop}{k:IntKind}{w:World}{x:Addr}{n c:Nat}{S:Nat→Int}{tx e:TypeId}(hk:Tryz.prog.underlying tx=some (.slice e))(h:Ints Q k w (some x) n S):Src Tryz.prog 1 tx (.slice (some x) n c) n (uz k S n) w:=by
 refine Src.ofSlice (P:=Tryz.prog) w hk x n c (uz k S n) (by rw[xy,Nat.mul_one]) (fun j u hu=>?_) (ujJ k S n)
 have hj:j<n:=by have:=(List.getElem?_eq_some_iff.1 hu).1;rwa [xy]at this
 rw[ub9 hj]at hu;cases hu
 rcases h with h0 | ⟨b,off,e,_,h⟩
 ·omega
 ·cases e
  have e':(⟨b,off,none⟩:Addr).add j=⟨b,off+j,none⟩:=by
   by_cases h0:j=0
   ·subst h0;simp[Addr.add]
   ·simp[Addr.add,h0]
  rw[e'];exact h j hj
theorem OwnC.ints{Q:Nat→Prop}{k:IntKind}{w:World}{v:Value}{n:Nat}{S:Nat→Int}(h:OwnC Q w v 1 n (uz k S n)):∃a c,v=.slice a n c∧Ints Q k w a n S:=by
 rcases h with⟨rfl,rfl,_⟩|⟨g,cap,rfl,hq,hl,_,hc,_⟩
 ·exact⟨none,0,rfl,.inl rfl⟩
 ·refine⟨_,_,rfl,.inr ⟨g,0,rfl,hq,fun i hi=>?_⟩⟩
  rw[Nat.zero_add,hc i (by rw[xy];exact hi),ub9 hi]
end
section
open Go.RowKit
open M (OpD uj Gr uet)
def rg(M:Nat→Bool):Nat→List Int
 |0=>[]
 |b+1=>rg M b++((if M b&&(b==0||!M (b-1)) then [(b:Int)] else [])++(if M b&&(b==255||!M (b+1)) then [(b:Int)] else []))
theorem un2(M:Nat→Bool)(b:Nat):rg M (b+1)=rg M b++((if M b&&(b==0||!M (b-1)) then [(b:Int)] else [])++(if M b&&(b==255||!M (b+1)) then [(b:Int)] else [])):=rfl
theorem upt(M:Nat→Bool)(b:Nat):(rg M b).length≤2*b:=by
 induction b with
 |zero=>exact Nat.le_refl _
 |succ b ih =>
  rw[rg,List.length_append,List.length_append];have:∀(c:Bool),(if c then [(b:Int)] else []).length≤1:=fun c=>by cases c<;>simp
  have h1:=this (M b&&(b==0||!M (b-1)));have h2:=this (M b&&(b==255||!M (b+1)));omega
def je(fl:List Int):List Value:=fl.map (fun z=>.int .i64 z)
def OwnL(w0 w:World)(v:Value)(l:List Int):Prop:=∃P,OwnC P w v 1 l.length (je l)∧(∀b,P b→w0.heap.size≤b∧b<w.heap.size)∧Below w0.heap.size w0 w
theorem OwnL.nil{w0 w:World}(h:Below w0.heap.size w0 w):OwnL w0 w (.slice none 0 0) []:=⟨fun _=>False,.inl ⟨rfl,rfl,rfl⟩,fun b q=>q.elim,h⟩
theorem OwnL.shape{w0 w:World}{v:Value}{l:List Int}(h:OwnL w0 w v l):∃a c,v=.slice a l.length c:=by
 obtain⟨P,h,_⟩:=h;exact um h
end
section
open Go.RowKit
open M (OpD uj Gr uet)
theorem uas{S T:Nat→Int}{b:Int}{m:Nat}(h:∀i,i<2*m→S i=T i):ua2 S b m=ua2 T b m:=by
 induction m with
 |zero=>rfl
 |succ m ih=>rw[ua2,ua2,ih (fun i hi=>h i (by omega)),h (2*m) (by omega),h (2*m+1) (by omega)]
def lf(l:List Int)(i:Nat):Int:=l.getD i 0
theorem ua3(l r:List Int){i:Nat}(h:i<l.length):lf (l++r) i=lf l i:=by
 unfold lf;rw[List.getD_eq_getElem?_getD,List.getD_eq_getElem?_getD,List.getElem?_append_left h]
theorem qw(l r:List Int)(i:Nat):lf (l++r) (l.length+i)=lf r i:=by
 unfold lf;rw[List.getD_eq_getElem?_getD,List.getD_eq_getElem?_getD,List.getElem?_append_right (by omega)]
 congr 2;omega
structure RgI(M:Nat→Bool)(b:Nat)(l:List Int):Prop where
 even:(b=0∨M (b-1)=false∨b=256∨M b=false)→l.length%2=0∧∀c:Nat,jI l.length (lf l) c=(decide (c<b)&&M c)
 odd:¬(b=0∨M (b-1)=false∨b=256∨M b=false)→∃s:Nat,s<b∧l.length%2=1∧lf l (l.length-1)=(s:Int)∧(∀c,s≤c→c≤b→M c=true)∧∀c:Nat,jI l.length (lf l) c=(decide (c<s)&&M c)
theorem ukH{l r:List Int}{c:Int}(hl:(l++r).length / 2=l.length / 2):jI (l++r).length (lf (l++r)) c=jI l.length (lf l) c:=by
 unfold jI;rw[hl];exact uas (fun i hi=>ua3 l r (by omega))
theorem upu(M:Nat→Bool)(b:Nat)(hb:b≤256):RgI M b (rg M b):=by
 induction b with
 |zero=>exact⟨fun _=>⟨rfl,fun c=>by simp[rg,jI,ua2]⟩,fun h=>absurd (.inl rfl) h⟩
 |succ b ih =>
  have k:=ih (by omega)
  have hs:rg M (b+1)=rg M b++((if M b&&(b==0||!M (b-1)) then [(b:Int)] else [])++(if M b&&(b==255||!M (b+1)) then [(b:Int)] else [])):=rfl
  generalize rg M b=l at *;cases hM:M b with
  |false =>
   have e:rg M (b+1)=l:=by rw[hs];simp[hM]
   rw[e];obtain⟨k1,k2⟩:=k.even (.inr (.inr (.inr hM)));refine⟨fun _=>⟨k1,fun c=>?_⟩,fun h=>absurd (.inr (.inl (by simpa using hM))) h⟩
   rw[k2 c];by_cases q:c=b
   ·subst q;simp[hM]
   ·have:(c<b)↔(c<b+1):=by omega
    simp[this]
  |true =>
   by_cases hcont:b+1=256∨M (b+1)=false
   ·
    have hend:(M b&&(b==255||!M (b+1)))=true:=by
     rcases hcont with q | q
     ·have:b=255:=by omega
      subst this;simp[hM]
     ·simp[hM,q]
    rw[hend]at hs;refine⟨fun _=>?_,fun h=>absurd (.inr (.inr (by rcases hcont with q | q;exact .inl q;exact .inr q))) h⟩
    by_cases hbeg:b=0∨M (b-1)=false
    ·have hb2:(M b&&(b==0||!M (b-1)))=true:=by
      rcases hbeg with q | q
      ·subst q;simp[hM]
      ·simp[hM,q]
     rw[hb2]at hs;simp only[if_true]at hs;obtain⟨k1,k2⟩:=k.even (by rcases hbeg with q | q;exact .inl q;exact .inr (.inl q))
     rw[hs];have hlen:(l++([(b:Int)]++[(b:Int)])).length=l.length+2:=by simp
     refine⟨by rw[hlen];omega,fun c=>?_⟩
     have e1:jI (l++([(b:Int)]++[(b:Int)])).length (lf (l++([(b:Int)]++[(b:Int)]))) c=(jI l.length (lf l) c||(decide ((b:Int)≤c)&&decide ((c:Int)≤b))):=by
      unfold jI;rw[hlen,show (l.length+2) / 2=l.length / 2+1 by omega,ua2,uas (T:=lf l) (fun i hi=>ua3 _ _ (by omega))]
      have p0:=qw l ([(b:Int)]++[(b:Int)]) 0;have p1:=qw l ([(b:Int)]++[(b:Int)]) 1;rw[show 2*(l.length / 2)=l.length+0 by omega,p0,show l.length+0+1=l.length+1 by omega,p1]
      rfl
     rw[e1,k2 c];by_cases q:c=b
     ·subst q;simp[hM]
     ·have h1:(c<b+1)↔(c<b):=by omega
      have h2:¬((b:Int)≤c∧(c:Int)≤b):=by omega
      by_cases h3:(b:Int)≤c
      ·have h4:¬(c:Int)≤b:=by omega
       simp[h1,h4]
      ·simp[h1];omega
    ·have hb2:(M b&&(b==0||!M (b-1)))=false:=by
      simp only[not_or]at hbeg;have:M (b-1)=true:=by simpa using hbeg.2
      simp[hbeg.1,this]
     rw[hb2]at hs;simp only[if_true,Bool.false_eq_true,if_false,List.nil_append]at hs;have hno:¬(b=0∨M (b-1)=false∨b=256∨M b=false):=by
      simp only[not_or]at hbeg ⊢;exact⟨hbeg.1,hbeg.2,by omega,by simp[hM]⟩
     obtain⟨s,s1,s2,s3,s4,s5⟩:=k.odd hno;rw[hs];have hlen:(l++[(b:Int)]).length=l.length+1:=by simp
     refine⟨by rw[hlen];omega,fun c=>?_⟩
     have e1:jI (l++[(b:Int)]).length (lf (l++[(b:Int)])) c=(jI l.length (lf l) c||(decide ((s:Int)≤c)&&decide ((c:Int)≤b))):=by
      unfold jI;rw[hlen,show (l.length+1) / 2=l.length / 2+1 by omega,ua2,uas (T:=lf l) (fun i hi=>ua3 _ _ (by omega))]
      have p1:=qw l [(b:Int)] 0;rw[ua3 _ _ (show 2*(l.length / 2)<l.length by omega),show 2*(l.length / 2)=l.length-1 by omega,s3,show l.length-1+1=l.length+0 by omega,p1]
      rfl
     rw[e1,s5 c];by_cases q:c<s
     ·have:c<b+1:=by omega
      have h2:¬(s:Int)≤c:=by omega
      simp[q,this];intro h;omega
     ·by_cases q2:c≤b
      ·rw[s4 c (by omega) q2]
       have:(s:Int)≤c:=by omega
       have h3:(c:Int)≤b:=by omega
       have h4:c<b+1:=by omega
       simp[this,h3,h4]
      ·have h3:¬(c:Int)≤b:=by omega
       have h4:¬c<b+1:=by omega
       simp[q,h3,h4]
   ·
    have hend:(M b&&(b==255||!M (b+1)))=false:=by
     simp only[not_or]at hcont;have:M (b+1)=true:=by simpa using hcont.2
     have h2:b≠255:=by omega
     simp[this,h2]
    rw[hend]at hs;have hgo:M (b+1)=true:=by simp only[not_or]at hcont;simpa using hcont.2
    refine⟨fun h=>absurd h (by simp only[not_or]at hcont ⊢;exact⟨by omega,by simp[hM],hcont.1,hcont.2⟩),fun _=>?_⟩
    by_cases hbeg:b=0∨M (b-1)=false
    ·have hb2:(M b&&(b==0||!M (b-1)))=true:=by
      rcases hbeg with q | q
      ·subst q;simp[hM]
      ·simp[hM,q]
     rw[hb2]at hs;simp only[if_true,Bool.false_eq_true,if_false,List.append_nil]at hs;obtain⟨k1,k2⟩:=k.even (by rcases hbeg with q | q;exact .inl q;exact .inr (.inl q))
     rw[hs];have hlen:(l++[(b:Int)]).length=l.length+1:=by simp
     refine⟨b,by omega,by rw[hlen];omega,?_,fun c h1 h2=>?_,fun c=>?_⟩
     ·rw[hlen,show l.length+1-1=l.length+0 by omega,qw];rfl
     ·rcases Nat.lt_or_ge b c with q | q
      ·obtain rfl:c=b+1:=by omega
       exact hgo
      ·obtain rfl:c=b:=by omega
       exact hM
     ·rw[ukH (by rw[hlen];omega),k2 c]
    ·have hb2:(M b&&(b==0||!M (b-1)))=false:=by
      simp only[not_or]at hbeg;have:M (b-1)=true:=by simpa using hbeg.2
      simp[hbeg.1,this]
     rw[hb2]at hs;simp only[Bool.false_eq_true,if_false,List.append_nil]at hs;have hno:¬(b=0∨M (b-1)=false∨b=256∨M b=false):=by
      simp only[not_or]at hbeg ⊢;exact⟨hbeg.1,hbeg.2,by omega,by simp[hM]⟩
     obtain⟨s,s1,s2,s3,s4,s5⟩:=k.odd hno;rw[hs];refine⟨s,by omega,s2,s3,fun c h1 h2=>?_,s5⟩
     rcases Nat.lt_or_ge b c with q | q
     ·obtain rfl:c=b+1:=by omega
      exact hgo
     ·exact s4 c h1 (by omega)
theorem upv(M:Nat→Bool){c:Nat}(hc:c<256):jI (rg M 256).length (lf (rg M 256)) c=M c:=by
 obtain⟨_,h⟩:=(upu M 256 (Nat.le_refl _)).even (.inr (.inr (.inl rfl)));rw[h c];simp[hc]
end
end Go.Proofs.YthicmmhmmfhncaaGreat
