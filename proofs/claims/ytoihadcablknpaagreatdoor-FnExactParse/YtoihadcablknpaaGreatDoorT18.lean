import Derived.Test.YtoihadcablknpaaGreatDoorT17
set_option linter.unusedVariables false
set_option linter.unusedSimpArgs false
set_option linter.defProp false
set_option maxHeartbeats 40000000
set_option maxRecDepth 100000
namespace Go.Proofs.YtoihadcablknpaaGreatDoor
open Go.Proofs.Tryz
namespace V
open Go.RowKit Go.Shelf
attribute [local go_sem] Oper.semAt_some
def cM(T:Nat->Int)(m:Nat):Nat:=((List.range m).map T).findIdx (λx=>x==10)
def nC T m:cM T m<=m:=by
 have h:=List.findIdx_le_length (xs:=(List.range m).map T) (p:=λx=>x==10);simpa[cM] using h
def mY T m j(h:j<cM T m):T j≠10:=by
 have:=List.not_of_lt_findIdx (xs:=(List.range m).map T) (p:=λx=>x==10) h;simpa using this
def mX T m(h:cM T m<m):T (cM T m)=10:=by
 have a:((List.range m).map T).findIdx (λx=>x==10)<((List.range m).map T).length:=by simpa[cM] using h
 have:=List.findIdx_getElem (w:=a);simpa[cM] using this
def uvs xs(f:∀x∈xs,0<=x/\x<=255) :
  Lib.indexByte (Lib.bytesOf xs) 10=if xs.findIdx (λx=>x==10)<xs.length then ((xs.findIdx (λx=>x==10):Nat):Int) else -1:=by
 induction xs with
 |nil=>simp[Lib.bytesOf,Lib.indexByte]
 |cons a l m =>
  have ih':=m (λx h=>f x (On _ h));obtain⟨n,o⟩:=f a (Mc ..);have g:∀l',Lib.bytesOf (a::l')=UInt8.ofNat a.toNat::Lib.bytesOf l':=λ_=>rfl
  rw[g];unfold Lib.indexByte;by_cases c:a=10
  ·subst c;simp[List.findIdx_cons]
  have i:(UInt8.ofNat a.toNat==10)=false:=by
   rw[Ht];intro e;have:=zD UInt8.toNat e;simp at this;omega
  have j:(a==10)=false:=by simp[c]
  simp only[i,Kr,if_false,List.findIdx_cons,j,cond_false,zQ];generalize Lib.indexByte (Lib.bytesOf l) 10=r at ih' ⊢;generalize List.findIdx (λx=>x==10) l=k at ih' ⊢;by_cases d:k<l.length
  ·rw[Zp d]at ih';have b:(r == -1)=false:=(by rw[Ht];omega);rw[b,Zn sM,Zp oM,ih'];omega
  rw[Zn d]at ih';have b:(r == -1)=true:=by rw[beq_iff_eq];exact ih'
  rw[b,Zp rfl,Zn oM]
def dA(T:Nat->Int)(n:Nat):Int:=if cM T n<n then (cM T n:Nat) else -1
def fJ b o n{c} T{w}(f:Tx w b o n T)(g:∀i,0<=T i/\T i<=255) :
  Cs 213 #[Sl (Sm b o) n c,Bv 10] w λe w'=>e=Rt (Iv (dA T n))/\w'=w:=by
 have j:∀i,i<n->w.cell? (Ad b (o+i))=some (Bv (((List.range n).map T).getD i 0)):=λi a=>by
  rw[f i a];simp[a]
 have d:Hid (Lib.indexByte (Lib.bytesOf ((List.range n).map T)) 10=dA T n):=by
  show _=_;have:=uvs ((List.range n).map T) (λx h=>by obtain⟨i,_,rfl⟩:=Dc.1 h;exact g i);simpa[dA,cM] using this
 go_enter func213,ntmps213;go_wp2;rw[run_callFunc_extern func231 rR rR rR (e:=Extern.BytealgIndexByte.indexByte) rR,Lib.run_indexByteSlice w b o n c ((List.range n).map T) sM j 10];simp only[Result.andThen];rw[Oper.upon_value];go_wp2;go_ret;exact⟨bU d,rfl⟩
def sh(T:Nat->Int)(f:Nat):Nat->Int:=λi=>T (f+i)
def bD(T:Nat->Int)(n f:Nat):Nat:=cM (sh T f) (n-f)
def cA(T:Nat->Int)(n:Nat)(s:Nat×Nat):Nat×Nat:=(s.1+1,s.2+bD T n s.2+1)
def dO(off cap f:Nat):Nat:=if cap=f then off else off+f
def cZ(T:Nat->Int)(n:Nat)(a:Nat->Option Addr)(cap:Nat)(s:Nat×Nat):Array Value:=#[cL s.1 s.2 (a s.2) (bD T n s.2) (cap-s.2)]
def cF T n f:bD T n f<=n-f:=nC _ _
def fK{w b off n f T}(h:Tx w b off n T)(a:f<=n):Tx w b (off+f) (n-f) (sh T f):=λi c=>by
 rw[Eo];exact h (f+i) oM
def nE j b off n cap T w(G:w.cell? (Ad j 0)=some (Sl (Sm b off) n cap))(E:Tx w b off n T)(A:∀i,0<=T i/\T i<=255)(hn:n<=1048576)(ah:n<=cap) :
  Nv prog 212 #[.pointer (Sm j 0)] ((1,0):Nat×Nat) (λs=>s.2<=n) (cA T n) (cZ T n (λf=>some (Ad b (dO off cap f))) cap) (λk=>k=j\/(k=b/\0<n)) w:=by
 intro l C J Jx W N U X af hJ ag hY R;have aj:Fence.wide.depth=none:=rfl;have Y:∀k,(k=j\/(k=b/\0<n))->k<W.heap.size:=λk t=>by
  rcases t with rfl|⟨rfl,aa⟩
  ·exact wX (cG G) N
  exact wX (cG (E 0 aa)) N
 refine callsIn_of_wp func212 rfl trivial ?_ rfl;simp only[ntmps212,Fg,zQ,Ef,Nat.reduceAdd,Nat.reduceSub,Fu,Fv,Fx,Fw,Dl,Cb]
 gi_wp2
 gi_loopw [3,4] (λa f wr=>∃num c:Nat,a=Iv num/\f=Iv c/\num<=c+1/\c<=n/\J (num,c) wr/\W.heap.size<=wr.heap.size/\∀k,(k=j\/(k=b/\0<n))->wr.heap[k]?=w.heap[k]?)
  (λ_ f _=>n+1-(intOf f).toNat)
 ·exact⟨1,0,rfl,rfl,oM,wP,R,wF,U⟩
 obtain⟨num,c,rfl,rfl,al,q,Z,O,y⟩:=hrel;have ai:=(zI (a:=(Ad j 0)) (y j (.inl rfl))).trans G;have F:=fI E (λh=>y b (.inr ⟨rfl,h⟩));have hfr':(c:Int)<=n:=oM;have ac:Hid (∀m,wA C wr m->∀k,(k=j\/(k=b/\0<n))->m.heap[k]?=w.heap[k]?):=λm g k t =>
  (g.d k (wX (Y k t) O) (X k t)).trans (y k t)
 have I:Hid (bD T n c=n-c->¬(cA T n (num,c)).2<=n):=λh=>by show ¬c+bD T n c+1<=n;omega
 obtain⟨fn,tmps,ad,ae,v,z⟩:=hY (num,c) wr Z q;by_cases B:cap=c
 ·have ab:n=c:=oM;have S:bD T n c=0:=oH (cF T n c);have u:dO off cap c=off:=Zp B;simp only[cZ,cL,u,S]at v;have Q:=I oM;have x:=Q;have r:dA (sh T c) 0 = -1:=by simp[dA]
  subst B;subst ab;simp only[Nat.sub_self]at v
  gi_wp2_with (refine⟨trivial,?_⟩;gi_at_call 213;refine(callsIn_wide.2 (fJ b off 0 (sh T n) (λi hi=>oM) (λi=>A _))).mono ?_;rintro e w' ⟨rfl,rfl⟩;rw[r])
  refine z.mono ?_;rintro e m (⟨rfl,o,g⟩|⟨rfl,p,g⟩)
  ·gi_wp2
   refine wL (results_none rfl _ _ _) rfl ?_;exact⟨⟨_,rfl⟩,.inl ⟨_,x,o⟩⟩
  gi_wp2
  refine wL (results_none rfl _ _ _) rfl ?_;exact⟨⟨_,rfl⟩,.inr ⟨(num,n),wF,p⟩⟩
 have u:dO off cap c=off+c:=Zn B;have D:Hid (dA (sh T c) (n-c)=if bD T n c<n-c then (bD T n c:Int) else -1):=rfl;have ak:=cF T n c;by_cases H:bD T n c<n-c
 ·have r:dA (sh T c) (n-c)=(bD T n c:Int):=by rw[D.o,Zp H]
  simp only[cZ,cL,u]at v
  gi_wp2_with (refine⟨trivial,?_⟩;gi_at_call 213;refine(callsIn_wide.2 (fJ b (off+c) (n-c) (sh T c) (fK F q) (λi=>A _))).mono ?_;rintro e w' ⟨rfl,rfl⟩;rw[r])
  refine z.mono ?_;rintro e m (⟨rfl,o,g⟩|⟨rfl,p,g⟩)
  ·have V:=ac m g;have P:=V
   gi_wp2
   go_roundw
   ·exact⟨num+1,c+bD T n c+1,by go_num,by go_num,oM,oM,o,wN O g.h,P⟩
   simp[intOf];omega
  gi_wp2
  refine wL (results_none rfl _ _ _) rfl ?_;exact⟨⟨_,rfl⟩,.inr ⟨(num,c),q,p⟩⟩
 have r:dA (sh T c) (n-c) = -1:=by rw[D.o,Zn H]
 have L:bD T n c=n-c:=oM;simp only[cZ,cL,u,L]at v;have x:=I L
 gi_wp2_with (refine⟨trivial,?_⟩;gi_at_call 213;refine(callsIn_wide.2 (fJ b (off+c) (n-c) (sh T c) (fK F q) (λi=>A _))).mono ?_;rintro e w' ⟨rfl,rfl⟩;rw[r])
 refine z.mono ?_;rintro e m (⟨rfl,o,g⟩|⟨rfl,p,g⟩)
 ·gi_wp2
  refine wL (results_none rfl _ _ _) rfl ?_;exact⟨⟨_,rfl⟩,.inl ⟨_,x,o⟩⟩
 gi_wp2
 refine wL (results_none rfl _ _ _) rfl ?_;exact⟨⟨_,rfl⟩,.inr ⟨(num,c),q,p⟩⟩
def uru(w:Wl)(a:Oa)(n cap:Nat)(T:Nat->Int)(d:Nat->Option Addr):Prop :=
 ∀(c:Nat) (b:Wl),Bw w b->b.cell? (Ad c 0)=some (Sl a n cap) ->
  ∃D:Nat->Prop,(∀k,D k->k=c\/k<w.heap.size)/\Nv prog 212 #[.pointer (Sm c 0)] ((1,0):Nat×Nat) (λs=>s.2<=n) (cA T n) (cZ T n d cap) D b
structure Ez(w:Wl)(a:Oa)(n cap:Nat)(T:Nat->Int)(adr:Nat->Option Addr):Prop where
 d:uru w a n cap T adr
 e:∀f,f<=n->∃b o,(0<bD T n f->adr f=some (Ad b o))/\Tx w b o (bD T n f) (sh T f)
 p:n<=cap
 c:n<=1048576
 j:∀i,0<=T i/\T i<=255
def Ez.q{w w' a n cap T}{g:Nat->Option Addr}(h:Ez w a n cap T g)(k:Bw w w'):Ez w' a n cap T g :=
 ⟨λm l v x=>by
  obtain⟨D,t,u⟩:=h.d m l (k.trans (v.mono k.size)) x;exact⟨D,λi z=>(t i z).imp id (λA=>wX A k.size),u⟩,
 λf y=>by
  obtain⟨b,o,r,s⟩:=h.e f y;exact⟨b,o,r,s.q k⟩,h.p,h.c,h.j⟩
def gK{w b off n cap T}(a:Tx w b off n T)(c:∀i,0<=T i/\T i<=255)(e:n<=1048576)(d:n<=cap) :
  Ez w (Sm b off) n cap T (λf=>some (Ad b (dO off cap f))) :=
 ⟨λh g l m=>⟨_,λk p=>by
   rcases p with rfl|⟨rfl,j⟩
   ·exact .inl rfl
   exact .inr (cG (a 0 j)),nE h b off n cap T g m (a.q l) c e d⟩,
 λf o=>⟨b,dO off cap f,λ_=>rfl,λi r=>by
   have s:=cF T n f;unfold dO;rw[Zn oM];exact fK a o i oM⟩,d,e,c⟩
end V
namespace V
open Go.RowKit Go.Shelf
attribute [local go_sem] Oper.semAt_some
def cY(B:Nat->Int)(m:Nat)(s:Nat×Nat):Nat×Nat:=(s.1+1,if s.2<m then s.2+M.cl B m s.2 else m+1)
structure Hf(w:World)(l y bx b m c:Nat)(x:World):Prop where
 a:x.cell? ⟨y+1,0,none⟩=some (.int .i64 c)
 e:x.frozen? ⟨y+1,0,none⟩=false
 yb:x.cell? ⟨y,0,none⟩=some (.func (.yield l) #[] #[])
 d:∀k,(k=bx\/(k=b/\0<m))->x.heap[k]? = w.heap[k]?
 h:y+3<=x.heap.size
theorem Hf.below{w:World}{l y bx b m c:Nat}{x z:World}(h:Hf w l y bx b m c x)(hb:Below (y+3) x z)(hd:∀k,(k=bx\/(k=b/\0<m))->k<y):Hf w l y bx b m c z :=
 ⟨(hb.cell (p:=⟨y+1,0,none⟩) (by show y+1<y+3;omega)).trans h.a,(hb.frozen (p:=⟨y+1,0,none⟩) (by show y+1<y+3;omega)).trans h.e,
  (hb.cell (p:=⟨y,0,none⟩) (by show y<y+3;omega)).trans h.yb,fun k hk=>(hb.block k (by have:=hd k hk;omega)).trans (h.d k hk),Nat.le_trans h.h hb.size⟩
theorem mN(bx num uL b off m cap:Nat)(a:Option Addr)(B:Nat->Int)(w:World)(hb0:w.cell? ⟨bx,0,none⟩=some (.int .i64 num))(hb1:w.cell? ⟨bx,1,none⟩=some (.int .i64 uL))(hb2:w.cell? ⟨bx,2,none⟩=some (.slice a m cap))
  (hB:Tx w b off m B) (hb:∀i,0<=B i/\B i<=255) (hm:m<=1048576) (hf:uL<=1048576) (hcap:m<=cap) (hA:0<m->a=some ⟨b,off,none⟩) :
  Nv Tryz.prog 214 #[.pointer (some ⟨bx,0,none⟩)] ((1,0):Nat×Nat) (fun s=>s.2<=m) (cY B m) (fun s=>#[.int .i64 (s.1:Nat),.int .i64 (uL+s.2:Nat)]) (fun k=>k=bx\/(k=b/\0<m)) w:=by
 intro l C J Jx W hsz hD hDC hCW hJ hJx hY h0;have hdep:Fence.wide.depth=none:=rfl;have hbxl:bx<w.heap.size:=cG hb0;have hDl:∀k,(k=bx\/(k=b/\0<m))->k<W.heap.size:=fun k hk=>by
  rcases hk with rfl | ⟨rfl,hm0⟩
  ·omega
  ·have:=cG (hB 0 hm0);exact Nat.lt_of_lt_of_le this hsz
 have hc0:=(World.cell?_of_block (a:=⟨bx,0,none⟩) (hD bx (.inl rfl))).trans hb0;have hc1:W.cell? ⟨bx,1,none⟩=some (.int .i64 uL):=(World.cell?_of_block (a:=⟨bx,1,none⟩) (hD bx (.inl rfl))).trans hb1;have hc2:W.cell? ⟨bx,2,none⟩=some (.slice a m cap):=(World.cell?_of_block (a:=⟨bx,2,none⟩) (hD bx (.inl rfl))).trans hb2;have hbW:bx<W.heap.size:=by omega
 refine callsIn_of_wp_marks Tryz.func214 rfl trivial ?_ rfl;simp only[Tryz.ntmps214,List.size_toArray,List.length_cons,List.length_nil,Nat.reduceAdd,Nat.reduceSub,Array.replicate_succ,Array.replicate_zero,List.push_toArray,List.append_toArray,List.nil_append,List.cons_append]
 gi_wp2_with (refine⟨trivial,?_⟩;gi_at_call 215;refine (mI _ _ _ _).mono ?_;rintro e w' ⟨rfl,rfl⟩)
 obtain⟨Wl,hWl⟩:=nm (((W.alloc (Obj.cells #[Value.func (Fn.yield l) #[] #[]] 100)).alloc (Obj.cells #[Value.int IntKind.i64 1] 3)).alloc (Obj.cells #[Value.slice a m cap] 22));have sWl:Wl.heap.size=W.heap.size+3:=by rw[<-hWl];simp
 have bWl:Below W.heap.size W Wl:=by rw[<-hWl];exact (((Below.refl _ W).alloc (Nat.le_refl _) _).alloc (by simp) _).alloc (by simp;omega) _
 have hyb:Wl.cell? ⟨W.heap.size,0,none⟩=some (.func (.yield l) #[] #[]):=by rw[<-hWl];exact uv _ (uv _ (vo W _ 100))
 have hcb:=vo (W.alloc (Obj.cells #[Value.func (Fn.yield l) #[] #[]] 100)) (.int .i64 1) 3;have hcg:=xj (W.alloc (Obj.cells #[Value.func (Fn.yield l) #[] #[]] 100)) (.int .i64 1) 3;rw[World.size_alloc]at hcb hcg;have hco:Wl.cell? ⟨W.heap.size+1,0,none⟩=some (.int .i64 (1:Nat)):=by rw[<-hWl];exact uv _ hcb
 have hcf:Wl.frozen? ⟨W.heap.size+1,0,none⟩=false:=by rw[<-hWl];exact vH hcb hcg
 have hxb:=vo ((W.alloc (Obj.cells #[Value.func (Fn.yield l) #[] #[]] 100)).alloc (Obj.cells #[Value.int IntKind.i64 1] 3)) (.slice a m cap) 22;rw[World.size_alloc,World.size_alloc]at hxb;have xWl:Wl.cell? ⟨W.heap.size+1+1,0,none⟩=some (.slice a m cap):=by rw[<-hWl];exact hxb
 have oWl:Hf w l W.heap.size bx b m 1 Wl:=⟨hco,hcf,hyb,fun k hk=>(bWl.block k (hDl k hk)).trans (hD k hk),by omega⟩
 have tWl:=fI hB (fun h=>oWl.d b (.inr ⟨rfl,h⟩))
 rw[hWl];refine xm (gf:=232) (lb:=#[.pointer (some ⟨W.heap.size+1+1,0,none⟩)]) rfl (enters_of Tryz.func232 (by kernel_rfl) rfl)
  (mJ (W.heap.size+1+1) b off m cap a B Wl xWl tWl hb hm hcap hA) (fun _=>rfl) ?hD (fun k=>C k\/k=W.heap.size+1) ?hCD ?hCw
  (fun p x=>∃c:Nat,c<=p+1/\p<=m/\J (c,p) x/\Hf w l W.heap.size bx b m c x)
  (fun cd p x=>cd=.ret/\∃c:Nat,p<=m/\Jx (c,p) x/\W.heap.size+3<=x.heap.size) ?hI ?hIx ⟨1,by omega,Nat.zero_le _,hJ _ _ _ h0 bWl,oWl⟩ ?round ?done ?stop
 case hD =>
  rintro k (rfl | ⟨rfl,hm0⟩)
  ·omega
  ·have:=hDl k (.inr ⟨rfl,hm0⟩);omega
 case hCD =>
  rintro k (rfl | ⟨rfl,hm0⟩) (hc | hc)
  ·exact hCW _ (by omega) hc
  ·omega
  ·exact hDC k (.inr ⟨rfl,hm0⟩) hc
  ·have:=hDl k (.inr ⟨rfl,hm0⟩);omega
 case hCw =>
  rintro k hk (hc | hc)
  ·exact hCW k (by omega) hc
  ·omega
 case hI =>
  rintro p A E ⟨c,hc,hpm,hj,ho⟩ hbel;exact⟨c,hc,hpm,hJ _ _ _ hj (hbel.mono (by omega)),ho.below (hbel.mono (by omega)) hDl⟩
 case hIx =>
  rintro cd p A E ⟨rfl,c,hpm,hj,hs⟩ hbel;exact⟨rfl,c,hpm,hJx _ _ _ hj (hbel.mono (by omega)),Nat.le_trans hs hbel.size⟩
 case round =>
  intro l' p x hl1 hl2 hIx hlt
  gi_wp2
  refine⟨wA.e _ _,hIx,?_⟩;rintro x2 hk2 hs2 ⟨c,hc,hpm,hJs,ho⟩;have k0:=(World.cell?_of_block (a:=⟨bx,1,none⟩) (ho.d bx (.inl rfl))).trans hb1;have k1:=ho.a;have k2:=ho.yb;obtain⟨fn,tmps,assign,body,hy,hR⟩:=hY (c,p) x2 hJs hpm;simp only[Int.natCast_add]at hy;have hpm':p<=1048576:=by omega
  gi_wp2
  refine hR.mono ?_;rintro e x3 (⟨rfl,hJ3,hk3⟩|⟨rfl,hJx3,hk3⟩)
  ·have hsx:=ho.h
   have j1:=(hk3.p (p:=⟨W.heap.size+1,0,none⟩) (by show W.heap.size+1<_;omega) (hCW _ (by show _<=W.heap.size+1;omega))).trans ho.a
   have j2:=(hk3.n (p:=⟨W.heap.size+1,0,none⟩) (by show W.heap.size+1<_;omega) (hCW _ (by show _<=W.heap.size+1;omega))).trans ho.e
   have hpn:cY B m (c,p)=(c+1,p+M.cl B m p):=by simp[cY,hlt]
   rw[hpn]at hJ3;have hc4:=M.eM B m p;have hc5:=M.eL B m p hlt
   gi_wp2
   have hset:Below W.heap.size x3 (x3.setCell ⟨W.heap.size+1,0,none⟩ (.int .i64 (c+1))):=(Below.refl _ x3).setCell (p:=⟨W.heap.size+1,0,none⟩) (by show _<=W.heap.size+1;omega) _
   refine⟨(hk3.l fun _=>.inl).c (wA.b _ _ _ (.inr rfl)),c+1,by omega,hc5,hJ _ _ _ hJ3 hset,?_,?_,?_,?_,?_⟩
   ·rw[Int.natCast_add]
    exact World.cell?_setCell_same' _ _ _ (by rw[j1];rfl)
   ·rw[World.frozen?_setCell];exact j2
   ·refine (World.cell?_of_block (a:=⟨W.heap.size,0,none⟩) (Below.heap_setCell _ _ _ _ (by show W.heap.size≠W.heap.size+1;omega))).trans ?_
    exact (hk3.p (p:=⟨W.heap.size,0,none⟩) (by show W.heap.size<_;omega) (hCW _ (Nat.le_refl _))).trans ho.yb
   ·intro k hk
    have:=hDl k hk;exact (hset.block k this).trans ((hk3.d k (by omega) (hDC k hk)).trans (ho.d k hk))
   ·have:=hset.size
    have:=hk3.h;omega
  ·have hsx:=ho.h
   gi_wp2
   exact⟨hk3.l fun _=>.inl,rfl,c,hpm,hJx3,Nat.le_trans hsx hk3.h⟩
 case done =>
  rintro d p x hd hnm ⟨c,hc,hpm,hJs,ho⟩ hK;obtain rfl:p=m:=by omega
  have k0:=(World.cell?_of_block (a:=⟨bx,1,none⟩) (ho.d bx (.inl rfl))).trans hb1;have k00:=(World.cell?_of_block (a:=⟨bx,0,none⟩) (ho.d bx (.inl rfl))).trans hb0;have k02:=(World.cell?_of_block (a:=⟨bx,2,none⟩) (ho.d bx (.inl rfl))).trans hb2;have k1:=ho.a;have k2:=ho.yb;have hbel:Below W.heap.size x ((x.alloc (.cells #[.int .i64 num,.int .i64 uL,.slice a p cap] 268)).drew):=((Below.refl _ x).alloc (by have:=ho.h;omega) _).drew
  obtain⟨fn,tmps,assign,body,hy,hR⟩:=hY (c,p) _ (hJ _ _ _ hJs hbel) (Nat.le_refl _);simp only[Int.natCast_add]at hy;have hR':=hR.mono (R':=fun e z=>∃bv:Bool,e=.returned (.bool bv)/\wA C ((x.alloc (.cells #[.int .i64 num,.int .i64 uL,.slice a p cap] 268)).drew) z/\(J (cY B p (c,p)) z\/Jx (c,p) z)) (by
   rintro e z (⟨rfl,h1,h2⟩|⟨rfl,h1,h2⟩)
   ·exact⟨true,rfl,h2,.inl h1⟩
   ·exact⟨false,rfl,h2,.inr h1⟩)
  have q0:W.heap.size<x.heap.size:=by have:=ho.h;omega
  have q1:W.heap.size+1<x.heap.size:=by have:=ho.h;omega
  have q2:bx<x.heap.size:=by omega
  have fin:Hid (∀z,wA C ((x.alloc (.cells #[.int .i64 num,.int .i64 uL,.slice a p cap] 268)).drew) z/\(J (cY B p (c,p)) z\/Jx (c,p) z) ->
    z.heap[d]? = some (.deferred (some []))/\((∃s:Nat×Nat,¬s.2<=p/\J s (z.putObj d (.deferred none)))\/(∃s:Nat×Nat,s.2<=p/\Jx s (z.putObj d (.deferred none))))):=by
   rintro z ⟨hkz,hz⟩;have hdx:=(Array.getElem?_eq_some_iff.1 hK).1;have hzs:=hkz.h;have e:(x.alloc (.cells #[.int .i64 num,.int .i64 uL,.slice a p cap] 268)).drew.heap.size=x.heap.size+1:=World.size_alloc _ _;rw[e]at hzs;refine⟨(hkz.d d (by rw[e];omega) (hCW d (by omega))).trans ((Below.heap_alloc x _ d hdx).trans hK),?_⟩
   rcases hz with hz | hz
   ·exact .inl ⟨_,by simp[cY],hJ _ _ _ hz (vI _ _ (by omega) (by omega))⟩
   ·exact .inr ⟨(c,p),Nat.le_refl _,hJx _ _ _ hz (vI _ _ (by omega) (by omega))⟩
  have hmo:Tryz.prog.follows .mixedOrders=true:=by kernel_rfl
  gi_wp2
  gi_region_with_o (first|(refine⟨trivial,?_⟩;gi_at_call 187;refine (fH (by omega) (by omega)).mono ?_;rintro e w' ⟨rfl,rfl⟩)|(gi_at_call 187;refine (end_in _ _ _ _ _ _ (by omega) (by omega)).mono ?_;rintro e w' ⟨rfl,rfl⟩)|(refine hR'.mono ?_;rintro e z ⟨bv,rfl,hz⟩))
  all_goals
   obtain⟨hKz,hfz⟩:=fin.out z hz;refine⟨by simp,.inl ⟨_,_,rfl,run_takeDeferred hKz,?_⟩⟩
   exact⟨_,results_none rfl _ _ _,⟨_,rfl⟩,hfz⟩
 case stop =>
  rintro d cd p x hd hm ⟨rfl,c,hpm,hj,hs⟩ hK
  gi_wp2
  refine⟨by simp,.inl ⟨_,_,rfl,run_takeDeferred hK,?_⟩⟩
  exact⟨_,results_none rfl _ _ _,⟨_,rfl⟩,.inr ⟨(c,p),hpm,hJx _ _ _ hj (vI _ _ (by omega) (by omega))⟩⟩
end V
namespace V
open Go.RowKit Go.Shelf
attribute [local go_sem] Oper.semAt_some
def eN(W:Wl)(v0 v1 v2:Vl)(t:TypeId):(W.alloc (Oc #[v0,v1,v2] t)).cell? (Ad W.heap.size 0)=some v0/\(W.alloc (Oc #[v0,v1,v2] t)).cell? (Ad W.heap.size 1)=some v1/\(W.alloc (Oc #[v0,v1,v2] t)).cell? (Ad W.heap.size 2)=some v2:=by
 have h:=Df W (Oc #[v0,v1,v2] t);refine⟨?_,?_,?_⟩<;>simp only[World.cell?,h]<;>rfl
structure He(w:Wl)(y:Nat)(q:Int)(x:Wl):Prop where
 f:x.cell? (Ad (y+1) 0)=some (Iv q)
 g:∃v,x.cell? (Ad (y+1+1) 0)=some v
 d:x.frozen? (Ad (y+1+1) 0)=false
 u:Below y w x
 h:y+4<=x.heap.size
def He.below{w y q x z}(h:He w y q x)(a:Below (y+4) x z):He w y q z :=
 ⟨(a.cell (p:=⟨y+1,0,none⟩) (by show y+1<y+4;omega)).trans h.f,h.g.imp λ_ b=>(a.cell (p:=⟨y+1+1,0,none⟩) (by show y+1+1<y+4;omega)).trans b,
  (a.frozen (p:=(Ad (y+1+1) 0)) (by show y+1+1<y+4;omega)).trans h.d,h.u.trans (a.mono oM),wN h.h a.size⟩
def mM{B m c p}(a:1<=c)(h:p=M.pos B m 0 (c-1)):p+M.cl B m p=M.pos B m 0 (c+1-1):=by
 obtain⟨k,rfl⟩:∃k,c=k+1:=⟨c-1,oM⟩;simp only[Ke]at h ⊢;rw[h];rfl
def urr{B m c p f q}(d:1<=c)(h:p=M.pos B m 0 (c-1))(a:∀j,j<c-1->f+M.pos B m 0 j<q)(b:f+p<q):∀j,j<c+1-1->f+M.pos B m 0 j<q:=λj g=>by
 by_cases e:j=c-1
 ·subst e;rw[<-h];exact b
 exact a j oM
def urs(w:Wl)(B:Nat->Int)(m uL:Nat)(q:Nat)(s:Nat×Nat)(x:Wl):Prop:=He w w.heap.size (q:Nat) x/\1<=s.1/\s.2<=m/\s.2=M.pos B m 0 (s.1-1)/\∀j,j<s.1-1->uL+M.pos B m 0 j<q
def urt(w:Wl)(B:Nat->Int)(m uL:Nat)(q:Nat)(a:Code)(s:Nat×Nat)(x:Wl):Prop :=
 a=.ret/\Bw w x/\w.heap.size+4<=x.heap.size/\x.cell? (Ad (w.heap.size+1+1) 0)=some (Iv (s.1:Nat))/\1<=s.1/\s.2<=m/\s.2=M.pos B m 0 (s.1-1)/\(∀j,j<s.1-1->uL+M.pos B m 0 j<q)/\q<=uL+s.2
def mL num uL b off m cap a q B w(P:Tx w b off m B)(Z:∀i,0<=B i/\B i<=255)(hm:m<=1048576)(hf:uL<=1048576)(ac:m<=cap)(Y:0<m->a=some (Ad b off))(hq:q<=uL+m) :
  CallsIn Fence.wide 0 prog 150 #[cL num uL a m cap,Iv (q:Nat)] w λe w'=>(∃c:Nat,e=Rt (Iv (c+1:Nat))/\(∀j,j<c->uL+M.pos B m 0 j<q)/\q<=uL+M.pos B m 0 c/\M.pos B m 0 c<=m)/\Bw w w':=by
 have ak:Fence.wide.depth=none:=rfl;have R:0<m->b<w.heap.size:=λh=>cG (P 0 h)
 refine callsIn_of_wp_marks func150 rfl trivial ?_ rfl;simp only[ntmps150,Fg,zQ,Ef,Nat.reduceAdd,Nat.reduceSub,Fu,Fv,Fx,Fw,Dl,Cb]
 gi_wp2_with (refine⟨trivial,?_⟩;gi_at_call 188;refine(mK _ _ _ _ _ _).mono ?_;rintro e w' ⟨rfl,rfl⟩)
 obtain⟨y,o⟩:=nm ((((w.alloc (Oc #[Value.int IntKind.i64 num,Value.int IntKind.i64 uL,Sl a m cap] 268)).alloc (Oc #[Value.int IntKind.i64 (q:Nat)] 3)).alloc (Oc #[Value.int IntKind.i64 0] 3)).alloc (Oc #[Value.int IntKind.i64 num,Value.int IntKind.i64 uL,Sl a m cap] 268));have au:y.heap.size=w.heap.size+4:=by rw[<-o];simp
 have O:Bw w y:=by rw[<-o];exact((((wI w).alloc wF _).alloc sM _).alloc sO _).alloc sO _
 have Q:=vo (w.alloc (Oc #[Value.int IntKind.i64 num,Value.int IntKind.i64 uL,Sl a m cap] 268)) (Iv (q:Nat)) 3;have J:=vo ((w.alloc (Oc #[Value.int IntKind.i64 num,Value.int IntKind.i64 uL,Sl a m cap] 268)).alloc (Oc #[Value.int IntKind.i64 (q:Nat)] 3)) (Iv 0) 3;have V:=xj ((w.alloc (Oc #[Value.int IntKind.i64 num,Value.int IntKind.i64 uL,Sl a m cap] 268)).alloc (Oc #[Value.int IntKind.i64 (q:Nat)] 3)) (Iv 0) 3;have v:=eN (((w.alloc (Oc #[Value.int IntKind.i64 num,Value.int IntKind.i64 uL,Sl a m cap] 268)).alloc (Oc #[Value.int IntKind.i64 (q:Nat)] 3)).alloc (Oc #[Value.int IntKind.i64 0] 3)) (Iv num) (Iv uL) (Sl a m cap) 268;simp only[zV]at Q J V v;rw[o]at v;have ai:He w w.heap.size (q:Nat) y:=⟨by rw[<-o];exact uv _ (uv _ Q),⟨_,by rw[<-o];exact uv _ J⟩,by rw[<-o];exact vH J V,O,oM⟩;rw[o];refine xm (gf:=214) (lb:=#[.pointer (Sm (w.heap.size+1+1+1) 0)]) rfl (enters_of func214 rR rfl)
  (mN (w.heap.size+1+1+1) num uL b off m cap a B y v.1 v.2.1 v.2.2 (P.q O) Z hm hf ac Y) (λ_=>rfl) ?hD (λk=>k=w.heap.size+1+1) ?hCD ?hCw
  (urs w B m uL q) (urt w B m uL q) ?hI ?hIx ?h0 ?round ?done ?stop
 case hD =>
  rintro k (rfl|⟨rfl,H⟩)
  ·omega
  have:=R H;omega
 case hCD =>
  rintro k (rfl|⟨rfl,H⟩) G
  ·omega
  have:=R H;omega
 case hCw =>
  rintro k hk G;omega
 case hI =>
  rintro s A E ⟨n,I⟩ t;exact⟨n.below (t.mono oM),I⟩
 case hIx =>
  rintro X s A E ⟨rfl,F,hs,G,I⟩ t;exact⟨rfl,F.trans (t.mono oM),wN hs t.size,(t.cell (p:=(Ad (w.heap.size+1+1) 0)) (by show w.heap.size+1+1<_;omega)).trans G,I⟩
 case h0=>exact⟨ai,wF,by simp[M.pos]⟩
 case round =>
  intro l' s x an ao aj af;obtain⟨c,p⟩:=s
  gi_wp2
  refine⟨zM,?_⟩;rintro x2 am ap ⟨n,r,l⟩;have k1:=n.f;obtain⟨rv,k2⟩:=n.g;have k3:=n.d;have N:Hid _:=l;clear l;have hlt':p<=m:=af;by_cases ae:q<=uL+p
  ·have hge':(q:Int)<=(uL:Int)+(p:Int):=oM
   gi_wp2
   obtain⟨W,z,L⟩:=N.o;exact⟨zP rfl,rfl,n.u.setCell (p:=⟨w.heap.size+1+1,0,none⟩) (by show w.heap.size<=w.heap.size+1+1;omega) _,
    wN n.h (wA.b (C:=λ_=>True) x2 _ _ trivial).h,Kg (by rw[k2];rfl),r,W,z,L,ae⟩
  have hge':¬((q:Int)<=(uL:Int)+(p:Int)):=oM;have T:p<m:=oM;have U:cY B m (c,p)=(c+1,p+M.cl B m p):=by simp[cY,T]
  rw[U];clear U
  gi_wp2
  obtain⟨W,z,L⟩:=N.o;refine⟨zM,n,by show 1<=c+1;omega,M.eL B m p T,?_,?_⟩
  ·exact mM r z
  exact urr r z L oM
 case done =>
  rintro d s x hd ag ⟨n,r,l⟩ D;exact aB l.1 ag
 case stop =>
  rintro d X s x hd aq ⟨rfl,F,ah,ad,r,l⟩ D
  gi_wp2
  refine⟨sM,.inl ⟨_,_,rfl,run_takeDeferred D,?_⟩⟩;have al:=(Cq.1 D).1;have S:=vI (B:=w.heap.size+4) x (.deferred none) (d:=d) oM ah;have ab:=(S.cell (p:=(Ad (w.heap.size+1+1) 0)) (by show w.heap.size+1+1<_;omega)).trans ad;have aa:=F.trans (S.mono oM);refine⟨Iv (s.1:Nat),?_,⟨s.1-1,by rw[Nat.sub_add_cancel r],l.2.2.1,by rw[<-l.2.1];exact l.2.2.2,by rw[<-l.2.1];exact l.1⟩,aa⟩;simp[results,f150,go_sem,ab]
end V
namespace V
open Go.RowKit Go.Shelf
attribute [local go_sem] Oper.semAt_some
structure HoOwn(w:Wl)(y:Nat)(q:Int)(x:Wl):Prop where
 f:x.cell? (Ad y 0)=some (Iv q)
 r0:∃v,x.cell? (Ad (y+1) 0)=some v
 r1:∃v,x.cell? (Ad (y+1) 1)=some v
 r2:∃v,x.cell? (Ad (y+1) 2)=some v
 e:x.frozen? (Ad (y+1) 0)=false
 a:x.frozen? (Ad (y+1) 1)=false
 c:x.frozen? (Ad (y+1) 2)=false
 r3:∃v,x.cell? (Ad (y+1+1) 0)=some v
 d:x.frozen? (Ad (y+1+1) 0)=false
 u:Below y w x
 h:y+4<=x.heap.size
def HoOwn.below{w y q x z}(h:HoOwn w y q x)(b:Below (y+4) x z):HoOwn w y q z:=by
 have c:∀k o,k<y+4->z.cell? (Ad k o)=x.cell? (Ad k o):=λk o g=>b.cell (p:=(Ad k o)) g
 have f:∀k o,k<y+4->z.frozen? (Ad k o)=x.frozen? (Ad k o):=λk o g=>b.frozen (p:=(Ad k o)) g
 exact⟨(c _ _ oM).trans h.f,h.r0.imp λ_ e=>(c _ _ oM).trans e,h.r1.imp λ_ e=>(c _ _ oM).trans e,h.r2.imp λ_ e=>(c _ _ oM).trans e,
  (f _ _ oM).trans h.e,(f _ _ oM).trans h.a,(f _ _ oM).trans h.c,h.r3.imp λ_ e=>(c _ _ oM).trans e,(f _ _ oM).trans h.d,
  h.u.trans (b.mono oM),wN h.h b.size⟩
def mW(W:Wl)(v0 v1 v2:Vl)(t:TypeId)(o:Nat):(W.alloc (Oc #[v0,v1,v2] t)).frozen? (Ad W.heap.size o)=false:=by
 have h:=Df W (Oc #[v0,v1,v2] t);simp only[World.frozen?,h];simp
abbrev dN(x:Wl)(y:Nat)(a0 a1 a2 a3:Vl):Wl :=
 (((x.setCell (Ad (y+1) 0) a0).setCell (Ad (y+1) 1) a1).setCell (Ad (y+1) 2) a2).setCell (Ad (y+1+1) 0) a3
def gX{x y v0 v1 v2 v3}b e f g(s:x.cell? (Ad (y+1) 0)=some v0)(t:x.cell? (Ad (y+1) 1)=some v1)(w:x.cell? (Ad (y+1) 2)=some v2)(z:x.cell? (Ad (y+1+1) 0)=some v3) :
  (dN x y b e f g).cell? (Ad (y+1) 0)=some b/\(dN x y b e f g).cell? (Ad (y+1) 1)=some e/\(dN x y b e f g).cell? (Ad (y+1) 2)=some f/\(dN x y b e f g).cell? (Ad (y+1+1) 0)=some g:=by
 have k:((Ad (y+1) 0):Addr)≠(Ad (y+1) 1):=sM;have l:((Ad (y+1) 0):Addr)≠(Ad (y+1) 2):=sM;have m:((Ad (y+1) 1):Addr)≠(Ad (y+1) 2):=sM;have i:∀o,((Ad (y+1+1) 0):Addr)≠(Ad (y+1) o):=sM;have j:∀(W:Wl) (a:Addr) (v u:Vl),W.cell? a=some u->(W.setCell a v).cell? a=some v:=λW a v u h=>EL W a v (by rw[h];rfl)
 have d:∀(W:Wl) (a c:Addr) (v:Vl),a≠c->(W.setCell a v).cell? c=W.cell? c:=λW a c v h=>by first|exact Ln h|exact Ln W a c v h|exact Ln _ _ _ _ h
 have n:=j x (Ad (y+1) 0) b _ s;have p:=j _ (Ad (y+1) 1) e _ ((d x (Ad (y+1) 0) (Ad (y+1) 1) b k).trans t);have q:=j _ (Ad (y+1) 2) f _ ((d (x.setCell (Ad (y+1) 0) b) (Ad (y+1) 1) (Ad (y+1) 2) e m).trans ((d x (Ad (y+1) 0) (Ad (y+1) 2) b l).trans w));have r:=j _ (Ad (y+1+1) 0) g _ ((d ((x.setCell (Ad (y+1) 0) b).setCell (Ad (y+1) 1) e) (Ad (y+1) 2) (Ad (y+1+1) 0) f (i 2).symm).trans ((d (x.setCell (Ad (y+1) 0) b) (Ad (y+1) 1) (Ad (y+1+1) 0) e (i 1).symm).trans ((d x (Ad (y+1) 0) (Ad (y+1+1) 0) b (i 0).symm).trans z)));exact⟨(d _ _ _ _ (i 0)).trans ((d _ _ _ _ l.symm).trans ((d _ _ _ _ k.symm).trans n)),
  (d _ _ _ _ (i 1)).trans ((d _ _ _ _ m.symm).trans p),(d _ _ _ _ (i 2)).trans q,r⟩
def gY x y a d e f:wA (λk=>k=y+1\/k=y+1+1) x (dN x y a d e f) :=
 (((zP (.inl rfl)).c (zP (.inl rfl))).c (zP (.inl rfl))).c (zP (.inr rfl))
def eA{T n f}(h:f+bD T n f<n):T (f+bD T n f)=10:=mX (sh T f) (n-f) (by show bD T n f<n-f;omega)
def eB{T n f j}(a:f<=j)(b:j<f+bD T n f):T j≠10:=by
 have:=mY (sh T f) (n-f) (j-f) (by show j-f<bD T n f;omega);unfold sh at this;rwa [Nat.add_sub_cancel' a]at this
def mV{T n f}(h:f+bD T n f<n):M.cnt T (f+bD T n f+1)=M.cnt T f+1:=by
 rw[M.gZ _ _ (eA h),M.iA T f (f+bD T n f) oM (λj a b=>eB a b)]
def gV{T n num a q}(c:a<=n)(h:a<=n+1/\num<=a+1/\(a<=n->num=1+M.cnt T a/\(a=0\/T (a-1)=10))/\(0<=q->(a:Int)<=q))(f:¬((a:Int)<=q/\q<=(a:Int)+(bD T n a:Int))) :
  (cA T n (num,a)).2<=n+1/\(cA T n (num,a)).1<=(cA T n (num,a)).2+1/\((cA T n (num,a)).2<=n->(cA T n (num,a)).1=1+M.cnt T (cA T n (num,a)).2/\((cA T n (num,a)).2=0\/T ((cA T n (num,a)).2-1)=10))/\(0<=q->((cA T n (num,a)).2:Int)<=q):=by
 have d:=cF T n a;show a+bD T n a+1<=n+1/\num+1<=a+bD T n a+1+1/\(a+bD T n a+1<=n->num+1=1+M.cnt T (a+bD T n a+1)/\(a+bD T n a+1=0\/T (a+bD T n a+1-1)=10))/\(0<=q->((a+bD T n a+1:Nat):Int)<=q);refine⟨oM,oM,λe=>⟨?_,.inr ?_⟩,λb=>?_⟩
 ·rw[mV oM,(h.2.2.1 c).1];omega
 ·rw[Ke];exact eA oM
 have:=h.2.2.2 b;omega
def eO(w:Wl)(T:Nat->Int)(n:Nat)(q:Int)(s:Nat×Nat)(x:Wl):Prop:=HoOwn w w.heap.size q x/\s.2<=n+1/\s.1<=s.2+1/\(s.2<=n->s.1=1+M.cnt T s.2/\(s.2=0\/T (s.2-1)=10))/\(0<=q->(s.2:Int)<=q)
def eP(w:Wl)(T:Nat->Int)(n:Nat)(a:Nat->Option Addr)(cap:Nat)(q:Int)(b:Code)(s:Nat×Nat)(x:Wl):Prop :=
 b=.ret/\Bw w x/\w.heap.size+4<=x.heap.size/\x.cell? (Ad (w.heap.size+1) 0)=some (Iv (s.1:Nat))/\x.cell? (Ad (w.heap.size+1) 1)=some (Iv (s.2:Nat)) /\
  x.cell? (Ad (w.heap.size+1) 2)=some (Sl (a s.2) (bD T n s.2) (cap-s.2))/\x.cell? (Ad (w.heap.size+1+1) 0)=some Bt/\s.2<=n/\s.1=1+M.cnt T s.2/\(s.2=0\/T (s.2-1)=10)/\(s.2:Int)<=q/\q<=(s.2+bD T n s.2:Nat)
def gW a n cap q T(m:Nat->Option Addr)w(hV:Ez w a n cap T m) :
  CallsIn Fence.wide 0 prog 149 #[Sl a n cap,Iv q] w λe w'=>((∃num b:Nat,e=Rt (.tuple #[cL num b (m b) (bD T n b) (cap-b),Bt])/\b<=n/\num=1+M.cnt T b/\(b=0\/T (b-1)=10)/\(b:Int)<=q/\q<=(b+bD T n b:Nat))\/(e=Rt (.tuple #[.agg #[Iv 0,Iv 0,nS],Bf])/\(q<0\/(n:Int)<q)))/\Bw w w':=by
 have aw:Fence.wide.depth=none:=rfl;have a2:prog.follows .mixedOrders=true:=rR;have hn:=hV.c;refine callsIn_of_wp_marks func149 rfl trivial ?_ rfl;simp only[ntmps149,Fg,zQ,Ef,Nat.reduceAdd,Nat.reduceSub,Fu,Fv,Fx,Fw,Dl,Cb]
 gi_wp2_with (refine⟨trivial,?_⟩;gi_at_call 186;refine(ut6 _ _ _ _).mono ?_;rintro e w' ⟨rfl,rfl⟩)
 obtain⟨C,v⟩:∃C,(((w.alloc (Oc #[Value.int IntKind.i64 q] 3)).alloc (Oc #[Value.int IntKind.i64 0,Value.int IntKind.i64 0,nS] 268)).alloc (Oc #[Bf] 4)).alloc (Oc #[Sl a n cap] 270)=C:=⟨_,rfl⟩;have a5:C.heap.size=w.heap.size+4:=by rw[<-v];simp
 have ae:Bw w C:=by rw[<-v];exact((((wI w).alloc wF _).alloc sM _).alloc sO _).alloc sO _
 have ha:=vo w (Iv q) 3;have t:=eN (w.alloc (Oc #[Value.int IntKind.i64 q] 3)) (Iv 0) (Iv 0) nS 268;have N:=λo=>mW (w.alloc (Oc #[Value.int IntKind.i64 q] 3)) (Iv 0) (Iv 0) nS 268 o
 have F:=vo ((w.alloc (Oc #[Value.int IntKind.i64 q] 3)).alloc (Oc #[Value.int IntKind.i64 0,Value.int IntKind.i64 0,nS] 268)) Bf 4;have ad:=xj ((w.alloc (Oc #[Value.int IntKind.i64 q] 3)).alloc (Oc #[Value.int IntKind.i64 0,Value.int IntKind.i64 0,nS] 268)) Bf 4;have hx:=vo (((w.alloc (Oc #[Value.int IntKind.i64 q] 3)).alloc (Oc #[Value.int IntKind.i64 0,Value.int IntKind.i64 0,nS] 268)).alloc (Oc #[Bf] 4)) (Sl a n cap) 270;simp only[zV]at t N F ad hx;rw[v]at hx;have av:HoOwn w w.heap.size q C:=by
  rw[<-v];exact⟨uv _ (uv _ (uv _ ha)),⟨_,uv _ (uv _ t.1)⟩,⟨_,uv _ (uv _ t.2.1)⟩,⟨_,uv _ (uv _ t.2.2)⟩,
   vH (uv _ t.1) (vH t.1 (N 0)),vH (uv _ t.2.1) (vH t.2.1 (N 1)),vH (uv _ t.2.2) (vH t.2.2 (N 2)),
   ⟨_,uv _ F⟩,vH F ad,by rw[v];exact ae,by rw[v];omega⟩
 rw[v];clear v ha t N F ad;obtain⟨D,hD,hG⟩:=hV.d (w.heap.size+1+1+1) C ae hx;refine xm (gf:=212) (lb:=#[.pointer (Sm (w.heap.size+1+1+1) 0)]) rfl (enters_of func212 rR rfl)
  hG (λ_=>rfl) ?hD (λk=>k=w.heap.size+1\/k=w.heap.size+1+1) ?hCD ?hCw
  (eO w T n q) (eP w T n m cap q) ?hI ?hIx ?h0 ?round ?done ?stop
 case hD =>
  intro k r;rcases hD k r with h|h<;>omega
 case hCD =>
  intro k r hc;rcases hD k r with h|h<;>omega
 case hCw =>
  rintro k r hc;omega
 case hI =>
  rintro s A E ⟨g,hp⟩ L;exact⟨g.below (L.mono oM),hp⟩
 case hIx =>
  rintro cd s A E ⟨rfl,aa,F,h1,h2,h3,h4,hp⟩ L;have c:∀k o,k<w.heap.size+4->E.cell? (Ad k o)=A.cell? (Ad k o):=λk o r=>L.cell (p:=(Ad k o)) (by show k<_;omega)
  exact⟨rfl,aa.trans (L.mono oM),wN F L.size,(c _ _ oM).trans h1,(c _ _ oM).trans h2,(c _ _ oM).trans h3,(c _ _ oM).trans h4,hp⟩
 case h0=>exact⟨av,by simp[M.cnt]⟩
 case round =>
  intro l' s x ay az P ao;obtain⟨num,b⟩:=s;simp only[cZ,cL]
  gi_wp2
  have af:Below (w.heap.size+4) x (x.alloc (Oc #[Iv num,Iv b,Sl (m b) (bD T n b) (cap-b)] 268)):=(wI x).alloc P.1.h _;refine⟨wU,⟨P.1.below af,P.2⟩,?_⟩;clear P af;rintro l Q ap ⟨g,z⟩;have R:=eN x (Iv num) (Iv b) (Sl (m b) (bD T n b) (cap-b)) 268;have c0:=(Q.p (p:=(Ad x.heap.size 0)) (by show x.heap.size<_;simp) (by show ¬x.heap.size=l';omega)).trans R.1;have c1:=(Q.p (p:=(Ad x.heap.size 1)) (by show x.heap.size<_;simp) (by show ¬x.heap.size=l';omega)).trans R.2.1;have c2:=(Q.p (p:=(Ad x.heap.size 2)) (by show x.heap.size<_;simp) (by show ¬x.heap.size=l';omega)).trans R.2.2;have q0:x.heap.size<l.heap.size:=oM;have q1:w.heap.size+1<l.heap.size:=oH g.h;have q2:w.heap.size+1+1<l.heap.size:=oH g.h;have q3:w.heap.size<l.heap.size:=oM;clear R Q ap;have ka:=g.f;obtain⟨v0,k0⟩:=g.r0;obtain⟨v1,k1⟩:=g.r1;obtain⟨v2,k2⟩:=g.r2;obtain⟨v3,k3⟩:=g.r3;have f0:=g.e;have f1:=g.a;have f2:=g.c;have f3:=g.d;have G:Hid _:=z;clear z;have a0:=cF T n b;have hfr':b<=1048576:=oM;have a1:bD T n b<=1048576:=oM;have hlt':b<=n:=ao;by_cases ah:(b:Int)<=q
  ·have am:decide ((b:Int)<=q)=true:=(by simp[ah]);by_cases aj:q<=(b:Int)+(bD T n b:Int)
   ·have an:decide (q<=(b:Int)+(bD T n b:Int))=true:=(by simp[aj]);obtain⟨S,p1,p2,U⟩:=gX (Iv num) (Iv b) (Sl (m b) (bD T n b) (cap-b)) Bt k0 k1 k2 k3;have ai:=gY l w.heap.size (Iv num) (Iv b) (Sl (m b) (bD T n b) (cap-b)) Bt;have aq:=g.h;have H:Hid (jp (λk=>k=w.heap.size+1\/k=w.heap.size+1+1) (eO w T n q) (eP w T n m cap q) (num,b) (cA T n (num,b)) l .ret { tmps:=#[],defers:=[] }
      (((dN l w.heap.size (Iv num) (Iv b) (Sl (m b) (bD T n b) (cap-b)) Bt).alloc (Oc #[Iv num,Iv b,Sl (m b) (bD T n b) (cap-b)] 268)).drew)):=by
     have ab:=(ai.c (wA.a _ _ (Oc #[Iv num,Iv b,Sl (m b) (bD T n b) (cap-b)] 268))).c (Bz _);have hi:=G.o;refine⟨ab,rfl,g.u.trans (ab.below oM oM),wN aq ab.h,uv _ S,uv _ p1,uv _ p2,uv _ U,hlt',(hi.2.2.1 hlt').1,(hi.2.2.1 hlt').2,ah,?_⟩;rw[Mf];exact aj
    clear ai S p1 p2 U
    gi_wp2
    gi_region_with_o (first|(refine⟨trivial,?_⟩;gi_at_call 187;refine(fH aS aS).mono ?_;rintro e w' ⟨rfl,rfl⟩)|(gi_at_call 187;refine(end_in _ _ _ _ _ _ aS aS).mono ?_;rintro e w' ⟨rfl,rfl⟩))
    all_goals
     gi_wp2
     exact H.o
   have an:decide (q<=(b:Int)+(bD T n b:Int))=false:=sO;have H:Hid (∀X,Bw l X->jp (λk=>k=w.heap.size+1\/k=w.heap.size+1+1) (eO w T n q) (eP w T n m cap q) (num,b) (cA T n (num,b)) l .normal { tmps:=#[],defers:=[] } X):=λX I =>
    ⟨wA.i I (λk r _=>r),g.below (I.mono (oH g.h)),gV hlt' G.o oM⟩
   gi_wp2
   gi_region_with_o (first|(refine⟨trivial,?_⟩;gi_at_call 187;refine(fH aS aS).mono ?_;rintro e w' ⟨rfl,rfl⟩)|(gi_at_call 187;refine(end_in _ _ _ _ _ _ aS aS).mono ?_;rintro e w' ⟨rfl,rfl⟩))
   all_goals
    gi_wp2
    exact H.o _ (((wI l).alloc wF _).drew)
  have am:decide ((b:Int)<=q)=false:=sO;have H:Hid (∀X,Bw l X->jp (λk=>k=w.heap.size+1\/k=w.heap.size+1+1) (eO w T n q) (eP w T n m cap q) (num,b) (cA T n (num,b)) l .normal { tmps:=#[],defers:=[] } X):=λX I =>
   ⟨wA.i I (λk r _=>r),g.below (I.mono (oH g.h)),gV hlt' G.o oM⟩
  have ax:Fence.wide.fn 187:=trivial
  gi_wp2
  gi_region_with_o (fail)
  all_goals
   gi_wp2
   exact H.o _ ((wI l).drew)
 case done =>
  rintro d s x hd a3 ⟨g,z⟩ J;obtain⟨v0,k0⟩:=g.r0;obtain⟨v1,k1⟩:=g.r1;obtain⟨v2,k2⟩:=g.r2;obtain⟨v3,k3⟩:=g.r3;have f0:=g.e;have f1:=g.a;have f2:=g.c;have f3:=g.d;have ag:d<x.heap.size:=(Cq.1 J).1;have ak:=g.h;have G:Hid _:=z;clear z
  gi_wp2
  have ac:=gY x w.heap.size (Iv 0) (Iv 0) nS Bf;have hK':=(ac.d d ag oM).trans J;refine⟨sM,.inl ⟨_,_,rfl,run_takeDeferred hK',?_⟩⟩;have au:=wN g.h ac.h;have y:=vI (B:=w.heap.size+4) _ (.deferred none) (d:=d) oM au;obtain⟨S,p1,p2,U⟩:=gX (Iv 0) (Iv 0) nS Bf k0 k1 k2 k3;have V:=(y.cell (p:=(Ad (w.heap.size+1) 0)) (by show w.heap.size+1<_;omega)).trans S;have W:=(y.cell (p:=(Ad (w.heap.size+1) 1)) (by show w.heap.size+1<_;omega)).trans p1;have Y:=(y.cell (p:=(Ad (w.heap.size+1) 2)) (by show w.heap.size+1<_;omega)).trans p2;have Z:=(y.cell (p:=(Ad (w.heap.size+1+1) 0)) (by show w.heap.size+1+1<_;omega)).trans U;refine⟨.tuple #[.agg #[Iv 0,Iv 0,nS],Bf],?_,.inr ⟨rfl,?_⟩,(g.u.trans (ac.below oM oM)).trans (y.mono oM)⟩
  ·simp[results,f149,go_sem,V,W,Y,Z]
  have:=G.o;omega
 case stop =>
  rintro d cd s x hd a4 ⟨rfl,aa,ak,h1,h2,h3,h4,z⟩ J
  gi_wp2
  refine⟨sM,.inl ⟨_,_,rfl,run_takeDeferred J,?_⟩⟩;have ag:d<x.heap.size:=(Cq.1 J).1;have y:=vI (B:=w.heap.size+4) x (.deferred none) (d:=d) oM ak;have c:∀k o,k<w.heap.size+4->(x.putObj d (.deferred none)).cell? (Ad k o)=x.cell? (Ad k o):=λk o r=>y.cell (p:=(Ad k o)) r
  have V:=(c _ _ oM).trans h1;have W:=(c _ _ oM).trans h2;have Y:=(c _ _ oM).trans h3;have Z:=(c _ _ oM).trans h4;have al:=aa.trans (y.mono oM);refine⟨.tuple #[cL s.1 s.2 (m s.2) (bD T n s.2) (cap-s.2),Bt],?_,.inl ⟨s.1,s.2,rfl,z⟩,al⟩;simp[results,f149,go_sem,V,W,Y,Z]
end V
end Go.Proofs.YtoihadcablknpaaGreatDoor
