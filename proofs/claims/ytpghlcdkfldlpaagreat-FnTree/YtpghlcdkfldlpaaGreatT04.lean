import Derived.Test.YtpghlcdkfldlpaaGreatT03
import Derived.Deep.AppendSrc
set_option linter.unusedVariables false
set_option linter.unusedSimpArgs false
set_option maxHeartbeats 40000000
set_option maxRecDepth 100000
namespace Go.Proofs.YtpghlcdkfldlpaaGreat
open Go.RowKit
open M (OpD ue Gr um)
def Box(w:World)(b:Nat)(c:Array Value):Prop:=∃t,w.heap[b]?=some (.cells c t)
theorem Box.x{w b c}(h:Box w b c):(∀o,w.cell? ⟨b,o,none⟩=c[o]?)/\(∀o,w.frozen? ⟨b,o,none⟩=false)/\b<w.heap.size:=by
 obtain⟨t,h⟩:=h;exact⟨λo=>by simp only[World.cell?,h];rfl,λo=>by simp only[World.frozen?,h];simp,(Array.getElem?_eq_some_iff.1 h).1⟩
theorem Box.blk{w w' b c}(h:Box w b c)(k:w'.heap[b]?=w.heap[b]?):Box w' b c:=let ⟨t,h⟩:=h;⟨t,k.trans h⟩
theorem Box.on{w w' b c}(h:Box w b c)(k:Below w.heap.size w w'):Box w' b c:=h.blk (k.block b h.x.2.2)
theorem Box.al{w b c}(h:Box w b c)o:Box (w.alloc o) b c:=h.on (uf w o)
theorem Box.set{w b c}(h:Box w b c)i v:Box (w.setCell ⟨b,i,none⟩ v) b (c.setIfInBounds i v):=let ⟨t,h⟩:=h;⟨t,by simp[World.setCell,Array.getElem?_modify,h]⟩
theorem Box.far{w b c}(h:Box w b c)a i v(d:b≠a):Box (w.setCell ⟨a,i,none⟩ v) b c:=h.blk (Below.heap_setCell _ _ _ _ d)
theorem uw(w:World)(c:Array Value)(t:TypeId):Box (w.alloc (.cells c t)) w.heap.size c:=⟨t,World.alloc_heap_new w _⟩
theorem yo(w:World)(c:Array Value)(t:TypeId)(b:Nat)(a:b=w.heap.size):Box (w.alloc (.cells c t)) b c:=a▸uw w c t
def stC(s:MSt)(ka:Option Addr)(n kc:Nat)(la:Option Addr)(ln lc:Nat)(a:Option Addr)(c b:Nat):Array Value :=
 #[.int .i64 s.at_, .int .i64 (s.pos : Int), .slice ka n kc, .slice la ln lc, .int .i64 (s.far : Int), .slice a c b, .int .i64 (s.steps : Int), .int .i64 (s.throws : Int), .bool s.done, .int .i64 s.code, .int .i64 s.label]
def st0:Array Value:=#[.int .i64 0,.int .i64 0,.slice none 0 0,.slice none 0 0,.int .i64 0,.slice none 0 0,.int .i64 0,.int .i64 0,.bool false,.int .i64 0,.int .i64 0]
theorem yB s ka kc la lc a c b:stV s ka kc la lc a c b=.agg (stC s ka s.st.length kc la s.log.length lc a c b):=rfl
def MSt.top(s:MSt)(k:Int):Bool:=match s.st.getLast? with | none=>false | some f=>f.kind==k
theorem ua7{l:List FrD}{j:Nat}(h:l.length=j+1):∃f,l[j]? = some f/\l.getLast? = some f:=by
 have hj:j<l.length:=by omega
 refine⟨l[j],List.getElem?_eq_getElem hj,?_⟩;rw[List.getLast?_eq_getElem?,h];simp[hj]
theorem ulb(s:MSt)(ka la xa:Option Addr)(kc lc xn xc:Nat)(kd:Int)(w:World)(hK:FrA w ka s.st)(hn:s.st.length<=1000) :
  Calls Tryz.prog 71 #[stV s ka kc la lc xa xn xc,.int .i64 kd] w (xX (s.top kd) w):=by
 obtain⟨n,hnn⟩:=nm s.st.length;rcases Nat.eq_zero_or_pos n with h0 | h0
 ·subst h0
  have HT:Hid (s.top kd=false):=by
   show s.top kd=false;unfold MSt.top;rw[List.eq_nil_of_length_eq_zero hnn];rfl
  unfold stV;rw[hnn];go_enter Tryz.func71,Tryz.ntmps71;go_wp2;go_ret;exact⟨by rw[HT.out];rfl,uf w _⟩
 ·obtain⟨j,rfl⟩:∃j,n=j+1:=⟨n-1,by omega⟩
  obtain⟨f,hf,hl⟩:=ua7 hnn;have HT:Hid (s.top kd=(f.kind==kd)):=by show _=_;unfold MSt.top;rw[hl]
  rcases hK with q | ⟨b,rfl,hc⟩
  ·omega
  obtain⟨c0,_⟩:=hc j f hf;have lb:=ub c0;have hj:j<=1000:=by omega
  unfold stV;rw[hnn];have hlt:(j:Int)<((j+1:Nat):Int):=by omega
  have e1:((j+1:Nat):Int)-1=(j:Int):=by omega
  go_enter Tryz.func71,Tryz.ntmps71;go_wp2;go_ret;exact⟨by rw[HT.out];rfl,uf w _⟩
theorem uab(l:List FrD)(f:FrD)(h:f.kind=2):uT (l++[f]).reverse=uT l.reverse:=by
 rw[List.reverse_append];show uT (f::l.reverse)=_;rw[uT,if_pos h]
theorem jo{l:List FrD}{j:Nat}{f:FrD}(hf:l[j]? = some f):l.take (j+1)=l.take j++[f]:=by
 obtain⟨hj,e⟩:=List.getElem?_eq_some_iff.1 hf;rw[<-e,List.take_append_getElem hj]
def faI(X:World)(n:Nat)(s:MSt)(i:Value)(wr:World):Prop :=
 ((∃j:Nat,j<n/\i=.int .i64 (j:Int)/\uT s.st.reverse=uT (s.st.take (j+1)).reverse)\/(i=.int .i64 (-1)/\uT s.st.reverse=none))/\Below X.heap.size X wr
theorem udT(s:MSt)(ka la xa:Option Addr)(kc lc xn xc:Nat)(w:World)(hK:FrA w ka s.st)(hn:s.st.length<=1000)(hkc:s.st.length<=kc)(hlc:s.log.length<=lc)(hlog:∀f,f∈s.st->f.kind≠2->f.log<=s.log.length) :
  Calls Tryz.prog 70 #[stV s ka kc la lc xa xn xc] w (ua8 (stV s.fail ka kc la lc xa xn xc) w):=by
 have HF:Hid (∀x y,FrA ((w.alloc x).alloc y) ka s.st):=fun x y=>hK.later (vb w x y)
 have HLG:Hid _:=hlog;rw[yB];generalize hnn:s.st.length=n at *;generalize hll:s.log.length=ln at *;have HN:Hid _:=hnn;have HLL:Hid _:=hll;clear hK hlog hnn hll;unfold stC;go_enter Tryz.func70,Tryz.ntmps70;go_wp2;have bx:=(uw w (stC s ka n kc la ln lc xa xn xc) 82).on (uf _ (.cells st0 82));have by_:=uw (w.alloc (.cells (stC s ka n kc la ln lc xa xn xc) 82)) st0 82;have HX:=vb w (.cells (stC s ka n kc la ln lc xa xn xc) 82) (.cells st0 82);replace HF:=HF.out (.cells (stC s ka n kc la ln lc xa xn xc) 82) (.cells st0 82);unfold stC st0 at bx by_ HX HF;simp only[World.size_alloc]at by_;generalize (w.alloc _).alloc _=X at *;replace HX:Hid _:=HX;replace HF:Hid (FrA X ka s.st):=HF;go_loopw [3] (fun i wr=>faI X n s i wr) (fun i _=>(intOf i+1).toNat)
 case atStart =>
  refine⟨?_,Below.refl _ _⟩;by_cases h0:n=0
  ·have hnil:s.st = []:=List.eq_nil_of_length_eq_zero (HN.out.trans h0)
   exact .inr ⟨by subst h0;rfl,by rw[hnil];rfl⟩
  ·exact .inl ⟨n-1,by omega,by congr 1;omega,by rw[List.take_of_length_le (by rw[HN.out];omega)]⟩
 case round =>
  obtain⟨hj,hbel⟩:=hrel;obtain⟨z,p,lz⟩:=(bx.on hbel).x;have bY:=ua (by_.on hbel);obtain⟨y,q,ly⟩:=bY.out.x;clear bx by_;have HBE:Hid _:=hbel;rcases hj with⟨j,hj,rfl,hun⟩|⟨rfl,hun⟩
  ·have hjl:j<s.st.length:=by rw[HN.out];exact hj
   have hfr:=List.getElem?_eq_getElem hjl;have HIN:Hid (s.st[j]∈s.st):=List.getElem_mem hjl;generalize s.st[j]=fr at *;have HTK:Hid (s.st.take (j+1)=s.st.take j++[fr]):=jo hfr;have HUN:Hid _:=hun;rcases HF.out with h0 | ⟨b,rfl,hf⟩
   ·have:=HN.out;omega
   obtain⟨c0,c1,c2,c3⟩:=hf j fr hfr;replace c0:=uc c0 hbel;replace c1:=uc c1 hbel;replace c2:=uc c2 hbel;replace c3:=uc c3 hbel;have lb2:=ub c0;have hlt':(j:Int)<(n:Int):=by omega
   have hge:(0:Int)<=(j:Int):=by omega
   clear hf hfr hun hbel hjl;cases hq:(fr.kind != 2) with
   |false =>
    have hk2:Hid (fr.kind=2):=by show fr.kind=2;simpa using hq
    go_wp2;go_roundw
    case rel =>
     have hu:uT s.st.reverse=uT (s.st.take j).reverse:=by rw[HUN.out,HTK.out,uab _ _ hk2.out]
     refine⟨?_,ud HBE.out (uf wr _)⟩;by_cases h0:j=0
     ·exact .inr ⟨by subst h0;rfl,by rw[hu,h0];rfl⟩
     ·exact .inl ⟨j-1,by omega,by congr 1;omega,by rw[hu,show j-1+1=j by omega]⟩
    case measure=>simp[intOf]
   |true =>
    have hk2:fr.kind≠2:=by simpa using hq
    have hlg:=HLG.out fr HIN.out hk2;have hl0:(0:Int)<=(fr.log:Int):=by omega
    have hl3:(fr.log:Int)<=(lc:Int):=by omega
    have hj3:(j:Int)<=(kc:Int):=by omega
    have hu:uT s.st.reverse=some (fr,(s.st.take j).reverse):=by
     rw[HUN.out,HTK.out,List.reverse_append];exact (if_neg hk2:_)
    have HVR:Hid (stV s.fail (some ⟨b,0,none⟩) kc la lc xa xn xc=.agg (stC { s with at_:=fr.to,pos:=fr.pos } (some ⟨b,0,none⟩) j kc la fr.log lc xa xn xc)):=by
     show _=_;have hl1:(s.st.take j).length=j:=by rw[List.length_take,HN.out];omega
     have hl2:(s.log.take fr.log).length=fr.log:=by rw[List.length_take,HLL.out];omega
     unfold MSt.fail;rw[hu];simp only[stV,stC,List.reverse_reverse,hl1,hl2]
    clear hk2 hu;go_wp2;refine bodyPost_ret (v:=stV s.fail (some ⟨b,0,none⟩) kc la lc xa xn xc) ?_ rfl ⟨rfl,?_⟩
    ·rw[HVR.out]
     simp[results,Tryz.f70,go_sem,stC, *]
    ·have HB:=ud HX.out HBE.out
     repeat with_reducible first|exact HB | refine uo ?_ _ _ _ (by omega) | refine ud ?_ (uf _ _)
  ·have HVE:Hid (stV s.fail ka kc la lc xa xn xc=stV (s.fin 1) ka kc la lc xa xn xc):=by
    show _=_;unfold MSt.fail;rw[hun]
   have hn1:¬(0:Int)<=-1:=by omega
   clear hun hbel;go_wp2_with fail;have hc:=uay s ka la xa kc lc xn xc 1 wr;rw[yB,HN.out,HLL.out]at hc;refine hc.mono ?_;rintro e W ⟨rfl,hb⟩;obtain⟨y',q',ly'⟩:=(bY.out.on hb).x;have HB:Hid _:=ud HX.out (ud HBE.out hb);clear hb hc y q z p;rw[yB];simp only[MSt.fin,HN.out,HLL.out,stC];go_wp2;refine bodyPost_ret (v:=stV s.fail ka kc la lc xa xn xc) ?_ rfl ⟨rfl,?_⟩
   ·rw[HVE.out,yB]
    simp[results,Tryz.f70,go_sem,MSt.fin,HN.out,HLL.out,stC, *]
   ·repeat with_reducible first|exact HB.out | refine uo ?_ _ _ _ (by omega)
def Wr(w:World)(g n:Nat):Prop:=∀j,j<n->(w.cell? ⟨g,j,none⟩).isSome=true/\w.frozen? ⟨g,j,none⟩=false
def OwnC(Q:Nat->Prop)(w:World)(v:Value)(a n:Nat)(cs:List Value):Prop :=
 (v=.slice none 0 0/\n=0/\cs = [])\/∃g cap,v=.slice (some ⟨g,0,none⟩) n cap/\Q g/\cs.length=n*a/\n<=cap/\(∀j,j<cs.length->w.cell? ⟨g,j,none⟩=cs[j]?)/\Wr w g (cap*a)
structure Grew(Q:Nat->Prop)(w w':World):Prop where
 os:w'.os=w.os
 tape:w'.tape=w.tape
 output:w'.output=w.output
 size:w.heap.size<=w'.heap.size
 block:∀b,b<w.heap.size->¬Q b->w'.heap[b]?=w.heap[b]?
 frozen:∀b o,b<w.heap.size->w'.frozen? ⟨b,o,none⟩=w.frozen? ⟨b,o,none⟩
 fresh:∀b o,w.heap.size<=b->b<w'.heap.size->w'.frozen? ⟨b,o,none⟩=false
theorem Soft.grew{Q w0 w w'}(h:Soft w0 w)(g:Grew Q w w'):Soft w0 w':=λb o a c=>by
 by_cases e:b<w.heap.size
 ·rw[g.frozen b o e];exact h b o a e
 exact g.fresh b o (by omega) c
theorem Wr.later{w w' g n}(h:Wr w g n)(k:w'.heap[g]?=w.heap[g]?):Wr w' g n:=λj b=>by
 rw[World.cell?_of_block (a:=⟨g,j,none⟩) k,World.frozen?_of_block (a:=⟨g,j,none⟩) k];exact h j b
theorem OwnC.on{Q w w' v c n cs}(h:OwnC Q w v c n cs)(k:Stay Q w w'):OwnC Q w' v c n cs:=by
 rcases h with h|⟨g,cap,d,b,e,f,i,l⟩
 ·exact .inl h
 exact .inr ⟨g,cap,d,b,e,f,λj m=>by rw[World.cell?_of_block (a:=⟨g,j,none⟩) (k g b)];exact i j m,l.later (k g b)⟩
theorem kJ g:∀(a:List Value) (o:Nat) (w:World) (b:Nat),b≠g->(w.setCells g o a).heap[b]?=w.heap[b]?
 |[],_,_,_,_=>rfl
 |v::r,o,w,b,h=>by
  show((w.setCell ⟨g,o,none⟩ v).setCells g (o+1) r).heap[b]?=_;rw[kJ g r (o+1) _ b h,Below.heap_setCell _ _ _ _ h]
theorem yQ g:∀(a:List Value) (o:Nat) (w:World),(w.setCells g o a).heap.size=w.heap.size
 |[],_,_=>rfl
 |v::r,o,w=>by
  show((w.setCell ⟨g,o,none⟩ v).setCells g (o+1) r).heap.size=_;rw[yQ g r (o+1) _,uh]
theorem qH g:∀(a:List Value) (o:Nat) (w:World),(w.setCells g o a).os=w.os/\(w.setCells g o a).tape=w.tape/\(w.setCells g o a).output=w.output
 |[],_,_=>⟨rfl,rfl,rfl⟩
 |v::r,o,w=>qH g r (o+1) (w.setCell ⟨g,o,none⟩ v)
theorem uln{Q w v x r n m cs news t s e}ty{i z D}(S:Tryz.prog.underlying t=some (.slice e))(R:Tryz.prog.info? e=some i)(ac:i.zero=some z)(ad:i.size=r)(ae:i.bytes=D)(af:z.cells.size=r)(aa:OwnC Q w v r n cs)(f:Src Tryz.prog r s x m news w)(W:n+m<=16777216)(l:D<=128)(Y:v=.slice none 0 0->0<m) :
  ∃y w',(Builtin.append_ #[t,s] ty #[v,x]).run Tryz.prog w=.ok y w'/\OwnC (λb=>Q b\/w.heap.size<=b) w' y r (n+m) (cs++news)/\Grew (λb=>Q b) w w'/\w'.heap.size<=w.heap.size+1:=by
 subst ad;have E:∀(A:Option Addr) (cap:Nat) (L:(Builtin.firstCells i.size n (.slice A n cap)).run Tryz.prog w.drew=.ok cs.toArray w.drew),cs.length=n*i.size->cap<n+m->v=.slice A n cap ->
   ∃y w',(Builtin.append_ #[t,s] ty #[v,x]).run Tryz.prog w=.ok y w'/\OwnC (λb=>Q b\/w.heap.size<=b) w' y i.size (n+m) (cs++news)/\Grew (λb=>Q b) w w'/\w'.heap.size<=w.heap.size+1:=by
  rintro A cap L p N rfl;have B:=run_append_grow_src (P:=Tryz.prog) w t s ty e i z S R ac A n cap cs L x m news f N (by omega) (by rw[ae];exact growslice_fits N (by have:(n+m)*D<=16777216*128:=Nat.mul_le_mul W l;omega));have O:=grownCap_ge w (n+m) cap e;refine⟨_,_,B,.inr ⟨w.heap.size,_,rfl,.inr (Nat.le_refl _),by rw[List.length_append,p,f.newsLen,Nat.add_mul],O,λj c=>?_,λj c=>⟨?_,?_⟩⟩,⟨rfl,rfl,rfl,by simp,λb l _=>Below.heap_alloc w.drew _ _ l,λb o l=>World.frozen?_of_block (a:=⟨b,o,none⟩) (Below.heap_alloc w.drew _ _ l),λb o H d=>uaE w.drew _ e b o H d⟩,by simp⟩
  ·have h:=World.alloc_heap_new w.drew (Obj.cells ((cs++news).toArray++Builtin.zeroCells z.cells (grownCap w (n+m) cap e-(n+m))) e);have h':(w.drew.alloc (Obj.cells ((cs++news).toArray++Builtin.zeroCells z.cells (grownCap w (n+m) cap e-(n+m))) e)).heap[w.heap.size]?=some (Obj.cells ((cs++news).toArray++Builtin.zeroCells z.cells (grownCap w (n+m) cap e-(n+m))) e):=h;simp only[World.cell?,h'];rw[Array.getElem?_append_left (by simpa using c)];simp
  ·have h:=World.alloc_heap_new w.drew (Obj.cells ((cs++news).toArray++Builtin.zeroCells z.cells (grownCap w (n+m) cap e-(n+m))) e);have h':(w.drew.alloc (Obj.cells ((cs++news).toArray++Builtin.zeroCells z.cells (grownCap w (n+m) cap e-(n+m))) e)).heap[w.heap.size]?=some (Obj.cells ((cs++news).toArray++Builtin.zeroCells z.cells (grownCap w (n+m) cap e-(n+m))) e):=h;simp only[World.cell?,h'];have ab:((cs++news).toArray++Builtin.zeroCells z.cells (grownCap w (n+m) cap e-(n+m))).size=grownCap w (n+m) cap e*i.size:=by
    simp only[Array.size_append,List.size_toArray,List.length_append,p,f.newsLen,size_zeroCells,af];generalize grownCap w (n+m) cap e=G at O ⊢;obtain⟨k,rfl⟩:∃k,G=n+m+k:=⟨G-(n+m),by omega⟩;rw[show n+m+k-(n+m)=k by omega,Nat.add_mul,Nat.add_mul]
   rw[Array.getElem?_eq_getElem (by rw[ab];exact c)];rfl
  have h:=World.alloc_heap_new w.drew (Obj.cells ((cs++news).toArray++Builtin.zeroCells z.cells (grownCap w (n+m) cap e-(n+m))) e);have h':(w.drew.alloc (Obj.cells ((cs++news).toArray++Builtin.zeroCells z.cells (grownCap w (n+m) cap e-(n+m))) e)).heap[w.heap.size]?=some (Obj.cells ((cs++news).toArray++Builtin.zeroCells z.cells (grownCap w (n+m) cap e-(n+m))) e):=h;simp only[World.frozen?,h'];simp
 rcases aa with⟨rfl,rfl,rfl⟩|⟨g,cap,rfl,I,p,ah,J,q⟩
 ·exact E none 0 (by rw[run_firstCells_none]) (by simp) (by have:=Y rfl;omega) rfl
 by_cases C:n+m<=cap
 ·have B:=run_append_room_src (P:=Tryz.prog) w t s ty e i S R g 0 n cap x m news f C
   (λj c=>by rw[Nat.zero_add];rw[f.newsLen]at c;exact(q _ (by have:(n+m)*i.size<=cap*i.size:=Nat.mul_le_mul_right _ C;rw[Nat.add_mul]at this;omega)).1)
   (λj c=>by rw[Nat.zero_add];rw[f.newsLen]at c;exact(q _ (by have:(n+m)*i.size<=cap*i.size:=Nat.mul_le_mul_right _ C;rw[Nat.add_mul]at this;omega)).2)
  rw[Nat.zero_add]at B;have U:(n+m)*i.size<=cap*i.size:=Nat.mul_le_mul_right _ C;rw[Nat.add_mul]at U;have Z:=f.newsLen;obtain⟨o1,o2,o3⟩:=qH g news (n*i.size) w;refine⟨_,_,B,.inr ⟨g,cap,rfl,.inl I,by rw[List.length_append,p,f.newsLen,Nat.add_mul],by omega,λj c=>?_,λj c=>⟨?_,?_⟩⟩,⟨o1,o2,o3,by rw[yQ];exact Nat.le_refl _,λb _ l=>kJ g _ _ _ _ (λe=>l (e▸I)),λb o _=>World.frozen?_setCells _ _ _ _ _,λb o H d=>by rw[yQ]at d;omega⟩,by rw[yQ];omega⟩
  ·rw[List.length_append,Z]at c;by_cases X:j<n*i.size
   ·rw[World.cell?_setCells_out g _ _ w _ (λ_ _=>Or.inl X),List.getElem?_append_left (by omega)];exact J j (by omega)
   have d:=World.cell?_setCells_in g news (n*i.size) w (λk V=>(q _ (by omega)).1) (j-n*i.size) (by omega);rw[show n*i.size+(j-n*i.size)=j by omega]at d;rw[d,List.getElem?_append_right (by omega),p,List.getElem?_eq_getElem (by omega)]
  ·by_cases ag:n*i.size<=j/\j<n*i.size+news.length
   ·have d:=World.cell?_setCells_in g news (n*i.size) w (λk V=>(q _ (by omega)).1) (j-n*i.size) (by omega);rw[show n*i.size+(j-n*i.size)=j by omega]at d;rw[d];rfl
   rw[World.cell?_setCells_out g _ _ w _ (λ_ _=>by simp;omega)];exact(q j c).1
  rw[World.frozen?_setCells];exact(q j c).2
 exact E (some ⟨g,0,none⟩) cap (run_firstCells_some (P:=Tryz.prog) w.drew i.size n ⟨g,0,none⟩ n cap cs p (λj u T=>by
  have c:=(List.getElem?_eq_some_iff.1 T).1;have e':(⟨g,0,none⟩:Addr).add j=⟨g,j,none⟩:=by
   by_cases F:j=0
   ·subst F;simp[Addr.add]
   simp[Addr.add,F]
  rw[e',<-T];exact J j c)) p (by omega) rfl
structure vV(t e:TypeId)(sz bytes:Nat):Prop where
 und:Tryz.prog.underlying t=some (.slice e)
 info:∃z,(Tryz.prog.info? e).map (λi=>(i.zero,i.size,i.bytes))=some (some z,sz,bytes)/\z.cells.size=sz
 bytes:bytes<=128
theorem yX{Q w v x a h n m cs news t f e}ty(c:vV t e a h)(p:OwnC Q w v a n cs)(q:Src Tryz.prog a f x m news w)(l:n+m<=16777216)(o:v=.slice none 0 0->0<m) :
  ∃g w',(Builtin.append_ #[t,f] ty #[v,x]).run Tryz.prog w=.ok g w'/\OwnC (λb=>Q b\/w.heap.size<=b) w' g a (n+m) (cs++news)/\Grew (λb=>Q b) w w'/\w'.heap.size<=w.heap.size+1:=by
 obtain⟨z,j,y⟩:=c.info;obtain⟨i,k,d⟩:=Option.map_eq_some_iff.1 j;simp only[Prod.mk.injEq]at d;obtain⟨r,s,u⟩:=d;exact uln ty c.und k r s u y p q l c.bytes o
theorem uhN{ops:Array Oper}{rest:List Oper}{o:Oper}{a:Act}{f:Exit->Act->World->Prop}{w:World}(r:o.guard=none)(s x:Operand)(t g:TypeId)(A:o.op=.call { callee:=.builtin .append,args:=#[s,x],argTypes:=#[t,g] })
  {Q:Nat->Prop} {v y:Value} {e:TypeId} {c i n m:Nat} {cs news:List Value} (D:a.eval s=v) (F:a.eval x=y) (p:vV t e c i) (B:OwnC Q w v c n cs) (E:Src Tryz.prog c g y m news w) (u:n+m<=16777216) (z:v=.slice none 0 0->0<m)
  (h:∀d w',OwnC (λb=>Q b\/w.heap.size<=b) w' d c (n+m) (cs++news)->Grew (λb=>Q b) w w'->w'.heap.size<=w.heap.size+1->wpList Tryz.prog ops f rest (a.put o.dst d) w'):wpList Tryz.prog ops f (o::rest) a w:=by
 refine wpList_plain r λK q=>?_
 obtain⟨d,w',C,j,k,l⟩:=yX o.type p B E u z;unfold Oper.wp execOp;simp only[A,resolve,invoke,builtin,Sem.run_bind,Sem.run_pure,Result.andThen_ok,List.map_toArray,List.map_cons,List.map_nil,D,F,C];exact q _ _ (h d w' j k l)
theorem ulo{ops:Array Oper}{o:Oper}{a:Act}{w:World}{K:Act->World->Prop}{g:Exit->Act->World->Prop}{E:Prop}(q:o.guard=none)(s x:Operand)(t f:TypeId)(z:o.op=.call { callee:=.builtin .append,args:=#[s,x],argTypes:=#[t,f] })
  {Q:Nat->Prop} {v y:Value} {e:TypeId} {c i n m:Nat} {cs news:List Value} (C:a.eval s=v) (G:a.eval x=y) (p:vV t e c i) (A:OwnC Q w v c n cs) (D:Src Tryz.prog c f y m news w) (r:n+m<=16777216) (u:v=.slice none 0 0->0<m)
  (h:∀d w',OwnC (λb=>Q b\/w.heap.size<=b) w' d c (n+m) (cs++news)->Grew (λb=>Q b) w w'->w'.heap.size<=w.heap.size+1->K (a.put o.dst d) w'):if Region.wanted o (yielded ops a.tmps)=true then Oper.wp Tryz.prog o a w K g else E:=by
 have F:Region.wanted o (yielded ops a.tmps)=true:=by simp[Region.wanted,q]
 rw[if_pos F];obtain⟨d,w',B,j,k,l⟩:=yX o.type p A D r u;unfold Oper.wp execOp;simp only[z,resolve,invoke,builtin,Sem.run_bind,Sem.run_pure,Result.andThen_ok,List.map_toArray,List.map_cons,List.map_nil,C,G,B];exact h d w' j k l
theorem elem34:vV 34 3 1 8:=⟨Tryz.underlying34,⟨_,upV,rfl⟩,by omega⟩
theorem qI:vV 22 5 1 1:=⟨Tryz.underlying22,⟨_,urs,rfl⟩,by omega⟩
theorem ubO:vV 71 123 3 40:=⟨Tryz.underlying71,⟨_,un4,rfl⟩,by omega⟩
theorem ulp:vV 25 76 2 48:=⟨Tryz.underlying25,⟨_,upW,rfl⟩,by omega⟩
def frv(f:FrD):List Value:=[.int .i64 f.kind,.int .i64 f.to,.int .i64 (f.pos:Int),.int .i64 (f.log:Int)]
def ye(l:List FrD):List Value:=l.flatMap frv
theorem uhv l f:ye (l++[f])=ye l++frv f:=by simp[ye]
theorem uiR l:(ye l).length=l.length*4:=by
 induction l with
 |nil=>rfl
 |cons x l a =>
  have:ye (x::l)=frv x++ye l:=rfl;rw[this,List.length_append,a,List.length_cons];show 4+_=_;omega
theorem udX:∀(l:List FrD) (i j:Nat) (x:FrD),l[i]?=some x->j<4->(ye l)[i*4+j]?=(frv x)[j]?
 |[],i,j,x,h,_=>by simp at h
 |y::l,0,j,x,h,hj=>by
  simp at h;subst h;show(frv y++ye l)[0*4+j]?=_;rw[List.getElem?_append_left (by show 0*4+j<4;omega)];simp
 |y::l,i+1,j,x,h,hj=>by
  simp at h;show(frv y++ye l)[(i+1)*4+j]?=_;have a:(frv y).length=4:=rfl;rw[List.getElem?_append_right (by rw[a];omega),a,show(i+1)*4+j-4=i*4+j by omega];exact udX l i j x h hj
theorem xH{Q w a c l}(h:OwnC Q w (.slice a l.length c) 4 l.length (ye l)):FrA w a l:=by
 rcases h with⟨_,e,_⟩|⟨g,cap,e,q,p,n,k,r⟩
 ·exact .inl e
 obtain rfl:a=some ⟨g,0,none⟩:=by injection e
 refine .inr ⟨g,rfl,λi f d=>?_⟩;have o:=(List.getElem?_eq_some_iff.1 d).1;have b:∀j,j<4->w.cell? ⟨g,i*4+j,none⟩=(frv f)[j]?:=λj m=>by
  rw[k _ (by rw[uiR];omega),udX l i j f d m]
 exact⟨b 0 (by omega),b 1 (by omega),b 2 (by omega),b 3 (by omega)⟩
theorem ul{Q w v b n cs}(h:OwnC Q w v b n cs):∃a c,v=.slice a n c:=by
 rcases h with⟨rfl,rfl,_⟩|⟨g,cap,rfl,_⟩
 ·exact⟨none,0,rfl⟩
 exact⟨_,_,rfl⟩
theorem uB{Q a w v c n cs}(h:OwnC Q w v c n cs)(k:∀b,Q b->a b):OwnC a w v c n cs:=by
 rcases h with h|⟨g,cap,e,f,d⟩
 ·exact .inl h
 exact .inr ⟨g,cap,e,k g f,d⟩
theorem upg:(Tryz.prog.info? 129).map (λi=>(i.zero,i.size,i.bytes))=some (some (.agg #[.int .i64 0,.int .i64 0,.int .i64 0,.int .i64 0]),4,32):=by kernel_rfl
theorem uq2:vV 80 129 4 32:=⟨Tryz.underlying80,⟨_,upg,rfl⟩,by omega⟩
theorem uq3{w W:World}(f:FrD)(y:Nat)(c:w.heap.size=y)(k:Below (w.alloc (.cells #[.int .i64 f.kind,.int .i64 f.to,.int .i64 (f.pos:Int),.int .i64 (f.log:Int)] 129)).heap.size (w.alloc (.cells #[.int .i64 f.kind,.int .i64 f.to,.int .i64 (f.pos:Int),.int .i64 (f.log:Int)] 129)) W):Src Tryz.prog 4 80 (.slice (some ⟨y,0,none⟩) 1 1) 1 (frv f) W:=by
 subst c;refine Src.ofSlice (P:=Tryz.prog) _ Tryz.underlying80 ⟨w.heap.size,0,none⟩ 1 1 (frv f) rfl (λj u a=>?_) (λu a=>?_)
 ·have e':(⟨w.heap.size,0,none⟩:Addr).add j=⟨w.heap.size,j,none⟩:=by
   by_cases b:j=0
   ·subst b;simp[Addr.add]
   simp[Addr.add,b]
  rw[e'];match j,a with
  |0,a=>exact uc (cN w.heap.size rfl a) k
  |1,a=>exact uc (cN w.heap.size rfl a) k
  |2,a=>exact uc (cN w.heap.size rfl a) k
  |3,a=>exact uc (cN w.heap.size rfl a) k
  |j+4,a=>simp[frv]at a
 simp[frv]at a;rcases a with rfl|rfl|rfl|rfl<;>rfl
structure Kept(K:Nat->Prop)(w w':World):Prop where
 os:w'.os=w.os
 tape:w'.tape=w.tape
 output:w'.output=w.output
 size:w.heap.size<=w'.heap.size
 block:∀b,b<w.heap.size->¬K b->w'.heap[b]?=w.heap[b]?
theorem Kept.of{K w w'}(h:Below w.heap.size w w'):Kept K w w':=⟨h.os,h.tape,h.output,h.size,λb a _=>h.block b a⟩
theorem Kept.set{K w w'}(h:Kept K w w')b o v(d:w.heap.size<=b):Kept K w (w'.setCell ⟨b,o,none⟩ v) :=
 ⟨h.os,h.tape,h.output,by rw[uh];exact h.size,λx c a=>(Below.heap_setCell _ _ _ x (λe=>by simp at e;omega)).trans (h.block x c a)⟩
def uiS(K:Nat->Prop)(s:MSt)(la:Option Addr)(lc:Nat)(a:Option Addr)(d c:Nat)(w:World)(e:Ending)(w':World):Prop :=
 ∃ka kc,e=.returned (stV s ka kc la lc a d c)/\OwnC (λb=>K b\/New w w' b) w' (.slice ka s.st.length kc) 4 s.st.length (ye s.st)/\Kept K w w'
theorem unt{K:Nat->Prop}{s s':MSt}{ka la d:Option Addr}{kc lc f e:Nat}{w w':World}(g:s'.st=s.st)(h:OwnC K w (.slice ka s.st.length kc) 4 s.st.length (ye s.st))(i:∀b,K b->b<w.heap.size)(c:Below w.heap.size w w'):uiS K s' la lc d f e w (.returned (stV s' ka kc la lc d f e)) w':=by
 refine⟨ka,kc,rfl,?_,Kept.of c⟩;rw[g];exact uB (h.on (λz a=>c.block z (i z a))) (λz a=>.inl a)
theorem unu{K:Nat->Prop}{s s':MSt}{f:FrD}{ka la c:Option Addr}{n kc lc i d:Nat}{w Y W w':World}(m:s'={ s with st:=s.st++[f] })(v:s.st.length=n)(r:Below w.heap.size w Y)(o:OwnC (λb=>K b\/Y.heap.size<=b) W (.slice ka (n+1) kc) 4 (n+1) (ye s.st++frv f))(A:∀b,K b->b<w.heap.size)(z:Grew (λb=>K b) Y W)(p:Stay (λb=>(K b\/Y.heap.size<=b)) W w')(t:Kept K w w'):uiS K s' la lc c i d w (.returned (stV s' ka kc la lc c i d)) w':=by
 refine⟨ka,kc,rfl,?_,t⟩;subst m;show OwnC _ _ (.slice ka (s.st++[f]).length kc) 4 (s.st++[f]).length (ye (s.st++[f]));rw[uhv,List.length_append,List.length_singleton,v];have h:=o.on p;rcases h with h|⟨g,cap,e,x,j,k,l,a⟩
 ·exact .inl h
 refine .inr ⟨g,cap,e,?_,j,k,l,a⟩;rcases x with q|q
 ·exact .inl q
 obtain⟨u,y⟩:=Option.isSome_iff_exists.1 (a 0 (by omega)).1;exact .inr ⟨by have:=r.size;omega,ub y⟩
theorem Kept.grew{K w Y W}(a:Below w.heap.size w Y)(c:Grew (λb=>K b) Y W):Kept K w W :=
 ⟨c.os.trans a.os,c.tape.trans a.tape,c.output.trans a.output,Nat.le_trans a.size c.size,λb d e=>(c.block b (by have:=a.size;omega) e).trans (a.block b d)⟩
theorem uj2 Q w:Stay Q w w:=λ_ _=>rfl
theorem unv{Q w W}(h:Stay Q w W)b o v(a:¬Q b):Stay Q w (W.setCell ⟨b,o,none⟩ v):=h.trans (ugj W ⟨b,o,none⟩ v a)
theorem uiT K s f most ka la a kc lc d c w(L:OwnC K w (.slice ka s.st.length kc) 4 s.st.length (ye s.st))(P:∀b,K b->b<w.heap.size)(Q:s.st.length<=1000) :
  Calls Tryz.prog 68 #[stV s ka kc la lc a d c,.agg #[.int .i64 f.kind,.int .i64 f.to,.int .i64 (f.pos:Int),.int .i64 (f.log:Int)],.int .i64 most] w (uiS K (s.push f most) la lc a d c w):=by
 have l:Hid (∀W,Calls Tryz.prog 30 #[stV s ka kc la lc a d c,.int .i64 3] W (ua8 (stV (s.fin 3) ka kc la lc a d c) W)):=λW=>uay s ka la a kc lc d c 3 W
 have k:=ua L;have g:=ua P;simp only[yB]at l ⊢;obtain⟨n,m⟩:=nm s.st.length;obtain⟨ln,A⟩:=nm s.log.length;have H:=m;have I:=A;rw[m]at Q k;simp only[H,I]at l ⊢;have h:=ua m;have t:=ua A;unfold stC;by_cases B:most<=(n:Int)
 ·have i:Hid (s.push f most=s.fin 3):=by show _=_;unfold MSt.push;rw[if_pos (by rw[h.out];exact B)]
  go_enter Tryz.func68,Tryz.ntmps68;go_wp2_with fail;refine(l _).mono ?_;rintro e W ⟨rfl,u⟩;have N:=(uw ((w.alloc (.cells (stC s ka n kc la ln lc a d c) 82)).alloc (.cells #[.int .i64 f.kind,.int .i64 f.to,.int .i64 (f.pos:Int),.int .i64 (f.log:Int)] 129)) st0 82).on u;obtain⟨y,q,C⟩:=N.x;have D:Hid _:=ud (uep w _ _ _) u;simp only[World.size_alloc]at y q C;unfold st0 at y;unfold stC;go_wp2;refine bodyPost_ret (v:=stV (s.push f most) ka kc la lc a d c) ?_ rfl (unt (s:=s) (by rw[i.out];rfl) (by rw[h.out];exact k) g ?_)
  ·rw[i.out,yB];simp[results,Tryz.f68,go_sem,stC,MSt.fin,h.out,t.out, *]
  repeat with_reducible first|exact D.out|refine uo ?_ _ _ _ (by omega)
 have i:Hid (s.push f most={ s with st:=s.st++[f] }):=by show _=_;unfold MSt.push;rw[if_neg (by rw[h.out];exact B)]
 go_enter Tryz.func68,Tryz.ntmps68;go_wp2_with (at_builtin;refine uhN rfl _ _ 80 80 rfl rfl rfl uq2 (k.on (λz S=>(ud (uep w _ _ _) (uf _ _)).block z (g z S))) (uq3 f (w.heap.size+1+1+1) (by simp) (Below.refl _ _)) (by omega) (λ_=>Nat.one_pos) ?_;intro V W4 o j R;obtain⟨F,G,rfl⟩:=ul o;have E:=ua o;have r:=ua j;obtain⟨z,p,lz⟩:=((((uw w _ 82).al _).al _).al _).blk (j.block _ (by simp;omega) (λq=>absurd (g _ q) (by omega))) |>.x;obtain⟨y,q,C⟩:=(yo ((w.alloc _).alloc _) _ 82 (w.heap.size+1+1) (by simp)).al _ |>.blk (j.block _ (by simp) (λq=>absurd (g _ q) (by omega))) |>.x;clear o j R);refine bodyPost_ret (v:=stV (s.push f most) F G la lc a d c) ?_ rfl (unu (s:=s) (f:=f) (n:=n) i h (ud (uep w _ _ _) (uf _ _)) E g r ?_ ?_)
 ·rw[i.out,yB];simp[results,Tryz.f68,go_sem,stC,h.out,t.out, *]
 ·have J:∀b,w.heap.size<=b->b<w.heap.size+4->¬(K b\/w.heap.size+1+1+1+1<=b):=λb T U q=>q.elim (λq=>absurd (g _ q) (by omega)) (λq=>by omega)
  simp only[World.size_alloc];repeat with_reducible first|exact uj2 _ _|refine unv ?_ _ _ _ (J _ (by omega) (by omega))
 have O:=Kept.grew (ud (uep w _ _ _) (uf _ _)) r;repeat with_reducible first|exact O|refine Kept.set ?_ _ _ _ (by omega)
end Go.Proofs.YtpghlcdkfldlpaaGreat
