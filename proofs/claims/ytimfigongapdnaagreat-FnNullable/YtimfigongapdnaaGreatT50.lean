import Derived.Test.YtimfigongapdnaaGreatT47
set_option linter.unusedVariables false
set_option linter.unusedSimpArgs false
set_option maxHeartbeats 40000000
set_option maxRecDepth 100000
namespace Go.Proofs.YtimfigongapdnaaGreat
open Go.RowKit
open M (OpD ug Gr ur)
def fnV(f:FuncId):Value:=.func (.func f) #[] #[]
def unk(k:Nat):Value:=.func (.func 154) #[] #[.pointer (some ⟨k,0,none⟩)]
def uiL(a b c:Nat):Array Value:=#[fnV 118,fnV 119,fnV 120,fnV 121,fnV 122,fnV 123,fnV 124,fnV 125,fnV 126,unk a,unk b,unk c,fnV 128]
theorem uaV k w:Calls Tryz.prog 127 #[.int .i64 k] w (λe w'=>e=.returned (.func (.func 154) #[] #[.pointer (some ⟨w.heap.size,0,none⟩)])/\w'=w.alloc (.cells #[.int .i64 k] 3)):=by
 go_enter Tryz.func127,Tryz.ntmps127;go_wp2;go_ret;exact⟨rfl,rfl⟩
theorem udI a b f c w(d:(w.cell? a).isSome=true)(e:w.frozen? a=false):(store a (.func b f c)).run Tryz.prog w=.ok () (w.setCell a (.func b f c)):=by
 obtain⟨u,g⟩:=Option.isSome_iff_exists.1 d;rw[run_store _ _ _ _ _ rfl,g];simp[e]
attribute [local go_sem] udI
def uqJ(w:World)(b:Nat)(a c g h v4 i j k l m d e f:Value):World:=(((((((((((((w.setCell ⟨b,0,none⟩ a).setCell ⟨b,1,none⟩ c).setCell ⟨b,2,none⟩ g).setCell ⟨b,3,none⟩ h).setCell ⟨b,4,none⟩ v4).setCell ⟨b,5,none⟩ i).setCell ⟨b,6,none⟩ j).setCell ⟨b,7,none⟩ k).setCell ⟨b,8,none⟩ l).setCell ⟨b,9,none⟩ m).setCell ⟨b,10,none⟩ d).setCell ⟨b,11,none⟩ e).setCell ⟨b,12,none⟩ f)
theorem uiM w b a c g i v4 j l m n p d e f:Only (λx=>x=b) w (uqJ w b a c g i v4 j l m n p d e f):=by
 unfold uqJ;have h:=λ(o:Nat) (v:Value) {W:World} (k:Only (λx=>x=b) w W)=>Only.set (P:=λx=>x=b) k b o v rfl
 exact(h 12 f (h 11 e (h 10 d (h 9 p (h 8 n (h 7 m (h 6 l (h 5 j (h 4 v4 (h 3 i (h 2 g (h 1 c (h 0 a (Only.refl _ _))))))))))))))
structure unl(w:World)(e:Ending)(w':World):Prop where
 ex:∃k0 k1 k2,e=.returned (.agg (uiL k0 k1 k2))/\w'.cell? ⟨k0,0,none⟩=some (.int .i64 0)/\w'.cell? ⟨k1,0,none⟩=some (.int .i64 1)/\w'.cell? ⟨k2,0,none⟩=some (.int .i64 2)
 bel:Below w.heap.size w w'
theorem uht w:Calls Tryz.prog 80 #[] w (unl w):=by
 go_enter Tryz.func80,Tryz.ntmps80;go_wp2_with fail;refine(uaV _ _).mono ?_;rintro e w' ⟨rfl,rfl⟩;go_wp2_with fail;refine(uaV _ _).mono ?_;rintro e w' ⟨rfl,rfl⟩;go_wp2_with fail;refine(uaV _ _).mono ?_;rintro e w' ⟨rfl,rfl⟩;have b:((((w.alloc (.cells #[.nilFunc,.nilFunc,.nilFunc,.nilFunc,.nilFunc,.nilFunc,.nilFunc,.nilFunc,.nilFunc,.nilFunc,.nilFunc,.nilFunc,.nilFunc] 139)).alloc (.cells #[.int .i64 0] 3)).alloc (.cells #[.int .i64 1] 3)).alloc (.cells #[.int .i64 2] 3)).heap[w.heap.size]?=some (.cells #[.nilFunc,.nilFunc,.nilFunc,.nilFunc,.nilFunc,.nilFunc,.nilFunc,.nilFunc,.nilFunc,.nilFunc,.nilFunc,.nilFunc,.nilFunc] 139):=uaa (uaa (uaa (yK w _ _ rfl) _) _) _;have i:((((w.alloc (.cells #[.nilFunc,.nilFunc,.nilFunc,.nilFunc,.nilFunc,.nilFunc,.nilFunc,.nilFunc,.nilFunc,.nilFunc,.nilFunc,.nilFunc,.nilFunc] 139)).alloc (.cells #[.int .i64 0] 3)).alloc (.cells #[.int .i64 1] 3)).alloc (.cells #[.int .i64 2] 3)).cell? ⟨w.heap.size+1,0,none⟩=some (.int .i64 0):=uA _ (uA _ (cN (w.heap.size+1) (by simp) rfl));have k:((((w.alloc (.cells #[.nilFunc,.nilFunc,.nilFunc,.nilFunc,.nilFunc,.nilFunc,.nilFunc,.nilFunc,.nilFunc,.nilFunc,.nilFunc,.nilFunc,.nilFunc] 139)).alloc (.cells #[.int .i64 0] 3)).alloc (.cells #[.int .i64 1] 3)).alloc (.cells #[.int .i64 2] 3)).cell? ⟨w.heap.size+1+1,0,none⟩=some (.int .i64 1):=uA _ (cN (w.heap.size+1+1) (by simp) rfl);have l:((((w.alloc (.cells #[.nilFunc,.nilFunc,.nilFunc,.nilFunc,.nilFunc,.nilFunc,.nilFunc,.nilFunc,.nilFunc,.nilFunc,.nilFunc,.nilFunc,.nilFunc] 139)).alloc (.cells #[.int .i64 0] 3)).alloc (.cells #[.int .i64 1] 3)).alloc (.cells #[.int .i64 2] 3)).cell? ⟨w.heap.size+1+1+1,0,none⟩=some (.int .i64 2):=cN (w.heap.size+1+1+1) (by simp) rfl;have d:Hid (Below w.heap.size w ((((w.alloc (.cells #[.nilFunc,.nilFunc,.nilFunc,.nilFunc,.nilFunc,.nilFunc,.nilFunc,.nilFunc,.nilFunc,.nilFunc,.nilFunc,.nilFunc,.nilFunc] 139)).alloc (.cells #[.int .i64 0] 3)).alloc (.cells #[.int .i64 1] 3)).alloc (.cells #[.int .i64 2] 3))):=uf (udT w _ _ _) (ui _ _);simp only[World.size_alloc];generalize (((w.alloc (.cells #[.nilFunc,.nilFunc,.nilFunc,.nilFunc,.nilFunc,.nilFunc,.nilFunc,.nilFunc,.nilFunc,.nilFunc,.nilFunc,.nilFunc,.nilFunc] 139)).alloc (.cells #[.int .i64 0] 3)).alloc (.cells #[.int .i64 1] 3)).alloc (.cells #[.int .i64 2] 3)=Y at *;have m:=ul (j:=0) b rfl;have o:=uy (j:=0) b;have E:=ul (j:=1) b rfl;have p:=uy (j:=1) b;have I:=ul (j:=2) b rfl;have t:=uy (j:=2) b;have J:=ul (j:=3) b rfl;have u:=uy (j:=3) b;have L:=ul (j:=4) b rfl;have g4:=uy (j:=4) b;have N:=ul (j:=5) b rfl;have y:=uy (j:=5) b;have O:=ul (j:=6) b rfl;have z:=uy (j:=6) b;have P:=ul (j:=7) b rfl;have A:=uy (j:=7) b;have Q:=ul (j:=8) b rfl;have B:=uy (j:=8) b;have R:=ul (j:=9) b rfl;have C:=uy (j:=9) b;have F:=ul (j:=10) b rfl;have q:=uy (j:=10) b;have G:=ul (j:=11) b rfl;have r:=uy (j:=11) b;have H:=ul (j:=12) b rfl;have s:=uy (j:=12) b;have D:=ud m;have n:=trivial;have g:Hid (∀f,Only (λx=>x=w.heap.size) Y f->unl w (.returned (.agg (uiL (w.heap.size+1) (w.heap.size+1+1) (w.heap.size+1+1+1)))) f):=λf c =>
  ⟨⟨_,_,_,rfl,(World.cell?_of_block (a:=⟨w.heap.size+1,0,none⟩) (c.block (w.heap.size+1) (by omega))).trans i,(World.cell?_of_block (a:=⟨w.heap.size+1+1,0,none⟩) (c.block (w.heap.size+1+1) (by omega))).trans k,(World.cell?_of_block (a:=⟨w.heap.size+1+1+1,0,none⟩) (c.block (w.heap.size+1+1+1) (by omega))).trans l⟩,
   ⟨c.os.trans d.os,c.tape.trans d.tape,c.output.trans d.output,by rw[c.size];exact d.size,λx h=>(c.block x (by omega)).trans (d.block x h)⟩⟩
 go_wp2;refine bodyPost_ret (v:=.agg (uiL (w.heap.size+1) (w.heap.size+1+1) (w.heap.size+1+1+1))) ?_ rfl ?_
 ·unfold uiL fnV unk;simp[results,Tryz.f80,go_sem, *]
 exact g _ (uiM _ _ _ _ _ _ _ _ _ _ _ _ _ _ _)
theorem uiN fuel most w:Calls Tryz.prog 37 #[.int .i64 fuel,.int .i64 most] w (uqQ (decide (0<=fuel/\fuel<=50000/\0<=most/\most<=1000)) w):=by
 by_cases a:0<=fuel
 ·by_cases b:fuel<=50000
  ·by_cases c:0<=most
   ·by_cases d:most<=1000
    ·go_enter Tryz.func37,Tryz.ntmps37;go_wp2;go_ret;exact⟨by simp[a,b,c,d],rfl⟩
    go_enter Tryz.func37,Tryz.ntmps37;go_wp2;go_ret;exact⟨by simp;omega,rfl⟩
   go_enter Tryz.func37,Tryz.ntmps37;go_wp2;go_ret;exact⟨by simp;omega,rfl⟩
  go_enter Tryz.func37,Tryz.ntmps37;go_wp2;go_ret;exact⟨by simp;omega,rfl⟩
 go_enter Tryz.func37,Tryz.ntmps37;go_wp2;go_ret;exact⟨by simp;omega,rfl⟩
theorem uhu kd b e c a d w(f:a<=1048576):Calls Tryz.prog 39 #[.agg #[.int .i64 kd,.int .i64 b,.int .i64 e,.slice c a d]] w (xI (decide (512<a)) w):=by
 by_cases h:512<a
 ·have h':(512:Int)<(a:Int):=by omega
  go_enter Tryz.func39,Tryz.ntmps39;go_wp2;go_ret;exact⟨by simp[h],ui w _⟩
 have h':¬(512:Int)<(a:Int):=by omega
 go_enter Tryz.func39,Tryz.ntmps39;go_wp2;go_ret;exact⟨by simp[h],ui w _⟩
def usS(n:Nat)(R:Nat->ur)(w:World)(e:Ending)(w':World):Prop:=(∃r:Int,e=.returned (.int .i64 r)/\(0<=r↔∃i,i<n/\512<(R i).sl)/\-1<=r/\r<=1048576)/\Below w.heap.size w w'
def idI(w:World)(n:Nat)(R:Nat->ur)(a:Value)(wr:World):Prop:=∃k:Nat,k<=n/\a=.int .i64 (k:Int)/\(∀i,i<k->¬512<(R i).sl)/\Below w.heap.size w wr
theorem uli Q a n c R w(d:InsA Q w a n R)(L:n<=1048576)(F:∀i,i<n->(R i).sl<=1048576) :
  Calls Tryz.prog 79 #[.slice a n c,.func (.func 39) #[] #[]] w (usS n R w):=by
 have A:=ua d;have B:=ua F;go_enter Tryz.func79,Tryz.ntmps79;go_wp2;go_loopw [8] (λs wr=>idI w n R s wr) (λs _=>n-(intOf s).toNat)
 case atStart=>exact⟨0,Nat.zero_le _,rfl,λi p=>absurd p (Nat.not_lt_zero _),Below.refl _ _⟩
 case round =>
  obtain⟨k,J,rfl,D,v⟩:=hrel;have t:=ua D;have l:=ua v;by_cases q:k<n
  ·have d:=A.later v;rcases d with I|⟨b,off,rfl,N,d⟩
   ·omega
   obtain⟨C,G,H,y,z,c3,O⟩:=d k q;have lb:=ud C;have hlt':(k:Int)<(n:Int):=(by omega);have r:=B k q;obtain⟨g,x⟩:=nm ((R k).sl);have u:=ua x;rw[x]at c3 r;by_cases j:512<g
   ·have E:decide (512<g)=true:=(by simp[j]);have o:=ua j;go_wp2_with (go_at_call 39;refine(uhu _ _ _ y g z _ r).mono ?_;rintro e W ⟨rfl,f⟩;have m:Hid _:=f;clear f);go_ret;exact⟨⟨(k:Int),rfl,⟨λ_=>⟨k,q,by rw[u.out];exact o⟩,λ_=>by omega⟩,by omega,by omega⟩,uf l m⟩
   have E:decide (512<g)=false:=(by simp[j]);have o:=ua j;go_wp2_with (go_at_call 39;refine(uhu _ _ _ y g z _ r).mono ?_;rintro e W ⟨rfl,f⟩;have m:Hid _:=f;clear f);go_roundw
   case rel=>exact⟨k+1,by omega,by go_num,vC t (by rw[u.out];exact o),uf l m⟩
   case measure=>simp[intOf];omega
  obtain rfl:k=n:=by omega
  go_wp2;go_ret;exact⟨⟨-1,rfl,⟨λh=>by omega,λ⟨i,p,h⟩=>absurd h (t i p)⟩,by omega,by omega⟩,l⟩
theorem uf3 Q a n c R w(l:InsA Q w a n R)(o:n<=1048576)(p:∀i,i<n->(R i).sl<=1048576) :
  Calls Tryz.prog 38 #[.slice a n c,.func (.func 39) #[] #[]] w (xK (∃i,i<n/\512<(R i).sl) w):=by
 have h:=ua l;have j:=ua p;go_enter Tryz.func38,Tryz.ntmps38;go_wp2_with fail;refine(uli Q a n c R _ h o j).mono ?_;rintro e W ⟨⟨r,rfl,g,s,t⟩,f⟩;have d:=ua g;have b:=ua f;clear g f;by_cases k:0<=r
 ·go_wp2;go_ret;exact⟨⟨true,rfl,qY (d.1 k)⟩,b⟩
 have m:decide (0<=r)=false:=by simp;omega
 go_wp2;go_ret;exact⟨⟨false,by rw[<-m];rfl,uV (λq=>by have:=d.2 q;omega)⟩,b⟩
def frC(f:FrD)(n:Bool):Value :=
 if f.kind=0 then .iface 213 (.agg #[.int .i64 f.to,.bool n,.int .i64 (f.pos:Int),.int .i64 (f.log:Int)])
 else if f.kind=1 then .iface 218 (.agg #[.int .i64 f.to,.bool n,.int .i64 (f.pos:Int),.int .i64 (f.log:Int)])
 else .iface 221 (.agg #[.int .i64 f.to,.bool n])
def vl:Bool->List FrD->List Value
 |_,[]=>[]
 |n,f::r=>frC f (n||f.kind==1)::vl (n||f.kind==1) r
theorem uaW:∀(l:List FrD) (n:Bool),(vl n l).length=l.length
 |[],_=>rfl
 |f::r,n=>by rw[vl,List.length_cons,uaW r,List.length_cons]
theorem ucq f:∀(l:List FrD) (n:Bool),vl n (l++[f])=vl n l++[frC f ((n||l.any (λf=>f.kind==1))||f.kind==1)]
 |[],n=>by simp[vl]
 |g::r,n=>by
  rw[List.cons_append,vl,ucq f r,vl,List.cons_append,List.any_cons,Bool.or_assoc n]
theorem qN:∀(l:List FrD) (n:Bool) (j:Nat),vl n (l.take j)=(vl n l).take j
 |[],n,j=>by simp[vl]
 |f::r,n,0=>by simp[vl]
 |f::r,n,j+1=>by rw[List.take_succ_cons,vl,qN r,vl,List.take_succ_cons]
theorem uaX:∀(l:List FrD) (n:Bool) (i:Nat) (f:FrD),l[i]?=some f->(vl n l)[i]?=some (frC f (n||(l.take (i+1)).any (λf=>f.kind==1)))
 |[],n,i,f,h=>by simp at h
 |g::r,n,0,f,h=>by simp at h;subst h;simp[vl]
 |g::r,n,i+1,f,h=>by
  simp at h;rw[vl,List.getElem?_cons_succ,uaX r _ i f h,List.take_succ_cons,List.any_cons,Bool.or_assoc]
structure MacC(w:World)(b:Nat)(s:MSt)(ia:Option Addr)(il ic:Nat)(most:Int)(ka:Option Addr)(kn kc:Nat)(la:Option Addr)(ln lc:Nat):Prop where
 c0:w.cell? ⟨b,0,none⟩=some (.slice ia il ic)
 c1:w.cell? ⟨b,1,none⟩=some (.int .i64 most)
 c2:w.cell? ⟨b,2,none⟩=some (.int .i64 s.at_)
 c3:w.cell? ⟨b,3,none⟩=some (.int .i64 (s.pos:Int))
 c4:w.cell? ⟨b,4,none⟩=some (.slice ka kn kc)
 c5:w.cell? ⟨b,5,none⟩=some (.slice la ln lc)
 c6:w.cell? ⟨b,6,none⟩=some (.int .i64 (s.far:Int))
 ex:∀i,i<256->w.cell? ⟨b,7+i,none⟩=some (.bool (s.exp i))
 c8:w.cell? ⟨b,263,none⟩=some (.int .i64 (s.steps:Int))
 c9:w.cell? ⟨b,264,none⟩=some (.int .i64 (s.throws:Int))
 c10:w.cell? ⟨b,265,none⟩=some (.int .i64 s.label)
 fz:∀j,w.frozen? ⟨b,j,none⟩=false
structure MacA(K L:Nat->Prop)(w:World)(b:Nat)(s:MSt)(ia:Option Addr)(il ic:Nat)(most:Int)(ka:Option Addr)(kc:Nat)(la:Option Addr)(lc:Nat):Prop where
 c:MacC w b s ia il ic most ka s.st.length kc la s.log.length lc
 st:OwnC K w (.slice ka s.st.length kc) 1 s.st.length (vl false s.st)
 log:OwnC L w (.slice la s.log.length lc) 3 s.log.length (vA s.log)
 lt:∀x,K x\/L x->x<w.heap.size
 kl:∀x,K x->¬L x
 kb:¬K b
 lb:¬L b
theorem MacC.on{w w' b s d il ic most ka e kc la ln lc}(h:MacC w b s d il ic most ka e kc la ln lc)(k:w'.heap[b]?=w.heap[b]?):MacC w' b s d il ic most ka e kc la ln lc:=by
 have c:∀o,w'.cell? ⟨b,o,none⟩=w.cell? ⟨b,o,none⟩:=λo=>World.cell?_of_block (a:=⟨b,o,none⟩) k
 exact⟨(c _).trans h.c0,(c _).trans h.c1,(c _).trans h.c2,(c _).trans h.c3,(c _).trans h.c4,(c _).trans h.c5,(c _).trans h.c6,λi f=>(c _).trans (h.ex i f),(c _).trans h.c8,(c _).trans h.c9,(c _).trans h.c10,λj=>(World.frozen?_of_block (a:=⟨b,j,none⟩) k).trans (h.fz j)⟩
theorem MacA.on{K L w w' b s d il ic most ka kc la lc}(h:MacA K L w b s d il ic most ka kc la lc)(k:∀x,K x\/L x\/x=b->w'.heap[x]?=w.heap[x]?)(e:w.heap.size<=w'.heap.size):MacA K L w' b s d il ic most ka kc la lc :=
 ⟨h.c.on (k b (.inr (.inr rfl))),h.st.on (λx a=>k x (.inl a)),h.log.on (λx a=>k x (.inr (.inl a))),λx a=>Nat.lt_of_lt_of_le (h.lt x a) e,h.kl,h.kb,h.lb⟩
theorem MacA.bl{K L w b s a il ic most ka kc la lc}(h:MacA K L w b s a il ic most ka kc la lc):b<w.heap.size:=ud h.c.c0
theorem MacA.later{K L w w' b s a il ic most ka kc la lc}(h:MacA K L w b s a il ic most ka kc la lc)(k:Below w.heap.size w w'):MacA K L w' b s a il ic most ka kc la lc :=
 h.on (λx c=>k.block x (by rcases c with q|q|q;exact h.lt x (.inl q);exact h.lt x (.inr q);rw[q];exact h.bl)) k.size
theorem MacC.set2{w b s a il ic most ka c kc la ln lc}(h:MacC w b s a il ic most ka c kc la ln lc)z:MacC (w.setCell ⟨b,2,none⟩ (.int .i64 z)) b { s with at_:=z } a il ic most ka c kc la ln lc :=
 ⟨uh (by omega) h.c0,uh (by omega) h.c1,uu h.c2,uh (by omega) h.c3,uh (by omega) h.c4,uh (by omega) h.c5,uh (by omega) h.c6,λi d=>uh (by omega) (h.ex i d),uh (by omega) h.c8,uh (by omega) h.c9,uh (by omega) h.c10,λj=>(World.frozen?_setCell _ _ _ _).trans (h.fz j)⟩
theorem MacC.set3{w}{b:Nat}{s a}{il ic:Nat}{most:Int}{ka}{c kc:Nat}{la}{ln lc:Nat}(h:MacC w b s a il ic most ka c kc la ln lc)(z:Nat):MacC (w.setCell ⟨b,3,none⟩ (.int .i64 (z:Int))) b { s with pos:=z } a il ic most ka c kc la ln lc :=
 ⟨uh (by omega) h.c0,uh (by omega) h.c1,uh (by omega) h.c2,uu h.c3,uh (by omega) h.c4,uh (by omega) h.c5,uh (by omega) h.c6,λi d=>uh (by omega) (h.ex i d),uh (by omega) h.c8,uh (by omega) h.c9,uh (by omega) h.c10,λj=>(World.frozen?_setCell _ _ _ _).trans (h.fz j)⟩
theorem MacC.set4{w b s a il ic most ka g kc la ln lc}(h:MacC w b s a il ic most ka g kc la ln lc)c e d:MacC (w.setCell ⟨b,4,none⟩ (.slice c e d)) b s a il ic most c e d la ln lc :=
 ⟨uh (by omega) h.c0,uh (by omega) h.c1,uh (by omega) h.c2,uh (by omega) h.c3,uu h.c4,uh (by omega) h.c5,uh (by omega) h.c6,λi f=>uh (by omega) (h.ex i f),uh (by omega) h.c8,uh (by omega) h.c9,uh (by omega) h.c10,λj=>(World.frozen?_setCell _ _ _ _).trans (h.fz j)⟩
theorem MacC.set5{w b s a il ic most ka c kc la ln lc}(h:MacC w b s a il ic most ka c kc la ln lc)d f e:MacC (w.setCell ⟨b,5,none⟩ (.slice d f e)) b s a il ic most ka c kc d f e :=
 ⟨uh (by omega) h.c0,uh (by omega) h.c1,uh (by omega) h.c2,uh (by omega) h.c3,uh (by omega) h.c4,uu h.c5,uh (by omega) h.c6,λi g=>uh (by omega) (h.ex i g),uh (by omega) h.c8,uh (by omega) h.c9,uh (by omega) h.c10,λj=>(World.frozen?_setCell _ _ _ _).trans (h.fz j)⟩
theorem MacC.set6{w}{b:Nat}{s a}{il ic:Nat}{most:Int}{ka}{c kc:Nat}{la}{ln lc:Nat}(h:MacC w b s a il ic most ka c kc la ln lc)(z:Nat):MacC (w.setCell ⟨b,6,none⟩ (.int .i64 (z:Int))) b { s with far:=z } a il ic most ka c kc la ln lc :=
 ⟨uh (by omega) h.c0,uh (by omega) h.c1,uh (by omega) h.c2,uh (by omega) h.c3,uh (by omega) h.c4,uh (by omega) h.c5,uu h.c6,λi d=>uh (by omega) (h.ex i d),uh (by omega) h.c8,uh (by omega) h.c9,uh (by omega) h.c10,λj=>(World.frozen?_setCell _ _ _ _).trans (h.fz j)⟩
theorem MacC.set8{w}{b:Nat}{s a}{il ic:Nat}{most:Int}{ka}{c kc:Nat}{la}{ln lc:Nat}(h:MacC w b s a il ic most ka c kc la ln lc)(z:Nat):MacC (w.setCell ⟨b,263,none⟩ (.int .i64 (z:Int))) b { s with steps:=z } a il ic most ka c kc la ln lc :=
 ⟨uh (by omega) h.c0,uh (by omega) h.c1,uh (by omega) h.c2,uh (by omega) h.c3,uh (by omega) h.c4,uh (by omega) h.c5,uh (by omega) h.c6,λi d=>uh (by omega) (h.ex i d),uu h.c8,uh (by omega) h.c9,uh (by omega) h.c10,λj=>(World.frozen?_setCell _ _ _ _).trans (h.fz j)⟩
theorem MacC.set9{w}{b:Nat}{s a}{il ic:Nat}{most:Int}{ka}{c kc:Nat}{la}{ln lc:Nat}(h:MacC w b s a il ic most ka c kc la ln lc)(z:Nat):MacC (w.setCell ⟨b,264,none⟩ (.int .i64 (z:Int))) b { s with throws:=z } a il ic most ka c kc la ln lc :=
 ⟨uh (by omega) h.c0,uh (by omega) h.c1,uh (by omega) h.c2,uh (by omega) h.c3,uh (by omega) h.c4,uh (by omega) h.c5,uh (by omega) h.c6,λi d=>uh (by omega) (h.ex i d),uh (by omega) h.c8,uu h.c9,uh (by omega) h.c10,λj=>(World.frozen?_setCell _ _ _ _).trans (h.fz j)⟩
theorem MacC.set10{w b s a il ic most ka c kc la ln lc}(h:MacC w b s a il ic most ka c kc la ln lc)z:MacC (w.setCell ⟨b,265,none⟩ (.int .i64 z)) b { s with label:=z } a il ic most ka c kc la ln lc :=
 ⟨uh (by omega) h.c0,uh (by omega) h.c1,uh (by omega) h.c2,uh (by omega) h.c3,uh (by omega) h.c4,uh (by omega) h.c5,uh (by omega) h.c6,λi d=>uh (by omega) (h.ex i d),uh (by omega) h.c8,uh (by omega) h.c9,uu h.c10,λj=>(World.frozen?_setCell _ _ _ _).trans (h.fz j)⟩
theorem MacA.put{K L w w' b s s' d il ic most ka kc la lc}(h:MacA K L w b s d il ic most ka kc la lc)(c:Only (λx=>x=b) w w')(g:s'.st=s.st)(f:s'.log=s.log)(i:MacC w' b s' d il ic most ka s.st.length kc la s.log.length lc):MacA K L w' b s' d il ic most ka kc la lc:=by
 refine⟨by rw[g,f];exact i,?_,?_,λx a=>by rw[c.size];exact h.lt x a,h.kl,h.kb,h.lb⟩
 ·rw[g];exact h.st.on (λx a=>c.block x (λe=>h.kb (e▸a)))
 rw[f];exact h.log.on (λx a=>c.block x (λe=>h.lb (e▸a)))
def jt(t:MSt):Int:=if t.done then t.code else -1
def ActIs(t:MSt)(K L:Nat->Prop)(b:Nat)(d:Option Addr)(il ic:Nat)(most:Int)(w:World)(e:Ending)(w':World):Prop :=
 e=.returned (.int .i64 (jt t))/\∃z st ka kc la lc,∃a c:Nat->Prop,(t.done=false->z=t.at_/\st=t.st)/\MacA a c w' b { t with at_:=z,st:=st } d il ic most ka kc la lc /\
  (∀x,a x->K x\/New w w' x)/\(∀x,c x->L x\/New w w' x)/\Kept (λx=>K x\/L x\/x=b) w w'
def unF(v:Value)(W:World)(e:Ending)(w':World):Prop:=e=.returned v/\w'=W
theorem ufd b ka kc w(a:w.cell? ⟨b,4,none⟩=some (.slice ka 0 kc)) :
  Calls Tryz.prog 153 #[.pointer (some ⟨b,0,none⟩)] w (unF .nilIface w):=by
 go_enter Tryz.func153,Tryz.ntmps153;go_wp2;go_ret;exact⟨rfl,rfl⟩
theorem ual b g j kc v w(a:w.cell? ⟨b,4,none⟩=some (.slice (some ⟨g,0,none⟩) (j+1) kc))(e:w.frozen? ⟨b,4,none⟩=false)(c:w.cell? ⟨g,j,none⟩=some v)(f:j<=1000)(h:j+1<=kc) :
  Calls Tryz.prog 153 #[.pointer (some ⟨b,0,none⟩)] w (unF v (w.setCell ⟨b,4,none⟩ (.slice (some ⟨g,0,none⟩) j kc))):=by
 have d:((j+1:Nat):Int)-1=(j:Int):=by omega
 have i:(j:Int)<((j+1:Nat):Int):=by omega
 have hk':(j:Int)<=(kc:Int):=by omega
 go_enter Tryz.func153,Tryz.ntmps153;go_wp2;go_ret;exact⟨rfl,rfl⟩
theorem udM:(Tryz.prog.info? 207).map (·.size)=some 2:=by kernel_rfl
theorem ulp : (Tryz.prog.info? 213).bind (fun i => (i.methods.find? (·.name == "loop.example/s0055/impl.head")).map (fun m => (m.path, m.func))) = some (#[⟨213, 0, false⟩], some (179, false)) := by kernel_rfl
theorem uiV fuel a b c d w : (method (fuel + 1) 213 (.agg #[a, b, c, d]) "loop.example/s0055/impl.head").run Tryz.prog w = .ok (179, .agg #[a, b]) w := by
 obtain⟨i,hi,hm⟩:=Option.bind_eq_some_iff.1 ulp;obtain⟨m,hf,hmm⟩:=Option.map_eq_some_iff.1 hm;simp only[Prod.mk.injEq]at hmm;obtain⟨j,hj,hs⟩:=Option.map_eq_some_iff.1 udM;unfold method;simp[typeInfo,hi,hf,hmm.1,hmm.2,hj,hs,follow,run_underlying Tryz.underlying213,run_underlying Tryz.underlying207,receiverAt,Go.part,isAgg,sizeOf,Place.get]
theorem urR : (Tryz.prog.info? 218).bind (fun i => (i.methods.find? (·.name == "loop.example/s0055/impl.head")).map (fun m => (m.path, m.func))) = some (#[⟨218, 0, false⟩], some (179, false)) := by kernel_rfl
theorem upR fuel a b c d w : (method (fuel + 1) 218 (.agg #[a, b, c, d]) "loop.example/s0055/impl.head").run Tryz.prog w = .ok (179, .agg #[a, b]) w := by
 obtain⟨i,hi,hm⟩:=Option.bind_eq_some_iff.1 urR;obtain⟨m,hf,hmm⟩:=Option.map_eq_some_iff.1 hm;simp only[Prod.mk.injEq]at hmm;obtain⟨j,hj,hs⟩:=Option.map_eq_some_iff.1 udM;unfold method;simp[typeInfo,hi,hf,hmm.1,hmm.2,hj,hs,follow,run_underlying Tryz.underlying218,run_underlying Tryz.underlying207,receiverAt,Go.part,isAgg,sizeOf,Place.get]
theorem urS : (Tryz.prog.info? 221).bind (fun i => (i.methods.find? (·.name == "loop.example/s0055/impl.head")).map (fun m => (m.path, m.func))) = some (#[⟨221, 0, false⟩], some (179, false)) := by kernel_rfl
theorem upS fuel a b w : (method (fuel + 1) 221 (.agg #[a, b]) "loop.example/s0055/impl.head").run Tryz.prog w = .ok (179, .agg #[a, b]) w := by
 obtain⟨i,hi,hm⟩:=Option.bind_eq_some_iff.1 urS;obtain⟨m,hf,hmm⟩:=Option.map_eq_some_iff.1 hm;simp only[Prod.mk.injEq]at hmm;obtain⟨j,hj,hs⟩:=Option.map_eq_some_iff.1 udM;unfold method;simp[typeInfo,hi,hf,hmm.1,hmm.2,hj,hs,follow,run_underlying Tryz.underlying221,run_underlying Tryz.underlying207,receiverAt,Go.part,isAgg,sizeOf,Place.get]
theorem ub6 z n w:(Instr.field 207 (.agg #[.int .i64 z,.bool n]) 1).run Tryz.prog w=.ok (.bool n) w:=by
 simp[Instr.field,run_underlying Tryz.underlying207,run_underlying Tryz.underlying4,Go.part,isAgg,asAgg]
theorem udN z n w:Calls Tryz.prog 179 #[.agg #[.int .i64 z,.bool n]] w (ua7 (.agg #[.int .i64 z,.bool n]) w):=by
 go_enter Tryz.func179,Tryz.ntmps179;go_wp2;refine bodyPost_ret (v:=.agg #[.int .i64 z,.bool n]) ?_ rfl ⟨rfl,uP w _ _⟩;simp[results,Tryz.f179,go_sem]
theorem uhB b ka kc w(a:w.cell? ⟨b,4,none⟩=some (.slice ka 0 kc)) :
  Calls Tryz.prog 147 #[.pointer (some ⟨b,0,none⟩)] w (xI false w):=by
 go_enter Tryz.func147,Tryz.ntmps147;go_wp2;go_ret;exact⟨rfl,Below.refl _ _⟩
theorem uhC b g j kc f n w(k:w.cell? ⟨b,4,none⟩=some (.slice (some ⟨g,0,none⟩) (j+1) kc))(d:w.cell? ⟨g,j,none⟩=some (frC f n))(m:j<=1000) :
  Calls Tryz.prog 147 #[.pointer (some ⟨b,0,none⟩)] w (xI n w):=by
 have l:((j+1:Nat):Int)-1=(j:Int):=by omega
 have o:(j:Int)<((j+1:Nat):Int):=by omega
 unfold frC at d;split at d
 ·skip
  have h:=ub6 f.to n;have i:=λfuel w=>uiV fuel (.int .i64 f.to) (.bool n) (.int .i64 (f.pos:Int)) (.int .i64 (f.log:Int)) w
  go_enter Tryz.func147,Tryz.ntmps147;go_wp2_with (go_at_call 179;refine(udN _ _ _).mono ?_;rintro e W ⟨rfl,a⟩;have c:Hid _:=a;clear a);go_ret;exact⟨rfl,c⟩
 split at d
 ·skip
  have h:=ub6 f.to n;have i:=λfuel w=>upR fuel (.int .i64 f.to) (.bool n) (.int .i64 (f.pos:Int)) (.int .i64 (f.log:Int)) w
  go_enter Tryz.func147,Tryz.ntmps147;go_wp2_with (go_at_call 179;refine(udN _ _ _).mono ?_;rintro e W ⟨rfl,a⟩;have c:Hid _:=a;clear a);go_ret;exact⟨rfl,c⟩
 skip
 have h:=ub6 f.to n;have i:=λfuel w=>upS fuel (.int .i64 f.to) (.bool n) w
 go_enter Tryz.func147,Tryz.ntmps147;go_wp2_with (go_at_call 179;refine(udN _ _ _).mono ?_;rintro e W ⟨rfl,a⟩;have c:Hid _:=a;clear a);go_ret;exact⟨rfl,c⟩
theorem uhD{K w ka kc l j f}(h:OwnC K w (.slice ka l.length kc) 1 l.length (vl false l))(m:l.length=j+1)(b:l[j]?=some f) :
  ∃g,ka=some ⟨g,0,none⟩/\K g/\l.length<=kc/\w.cell? ⟨g,j,none⟩=some (frC f (l.any (λf=>f.kind==1))):=by
 rcases h with⟨_,e,_⟩|⟨g,cap,e,c,d,i,a,k⟩
 ·omega
 injection e with e1 e2 e3;refine⟨g,e1,c,by omega,?_⟩;rw[a j (by rw[uaW];omega),uaX l false j f b,List.take_of_length_le (by omega),Bool.false_or]
theorem jT K L b s m il ic most ka kc la lc w(i:MacA K L w b s m il ic most ka kc la lc)(p:s.st.length<=1000) :
  Calls Tryz.prog 147 #[.pointer (some ⟨b,0,none⟩)] w (xI s.inNot w):=by
 have a:=i.c.c4;rcases Nat.eq_zero_or_pos s.st.length with d|d
 ·have e:s.inNot=false:=by unfold MSt.inNot;rw[List.eq_nil_of_length_eq_zero d];rfl
  rw[e];rw[d]at a;exact uhB b ka kc w a
 obtain⟨j,h⟩:∃j,s.st.length=j+1:=⟨s.st.length-1,by omega⟩;obtain⟨f,l,_⟩:=ua6 h;obtain⟨g,rfl,n,o,k⟩:=uhD i.st h l;rw[h]at a;exact uhC b g j kc f s.inNot w a k (by omega)
theorem ubC K L b s f il ic most ka kc la lc z w(j:MacA K L w b s f il ic most ka kc la lc)(k:s.st.length<=1000) :
  Calls Tryz.prog 151 #[.pointer (some ⟨b,0,none⟩),.int .i64 z] w (ua7 (.agg #[.int .i64 z,.bool s.inNot]) w):=by
 have g:=ua j;obtain⟨l,d⟩:=nm s.inNot;have i:=ua d;rw[d];go_enter Tryz.func151,Tryz.ntmps151;go_wp2_with fail;refine(jT K L b s f il ic most ka kc la lc _ (g.later (ui w _)) k).mono ?_;rintro e W ⟨rfl,c⟩;rw[i.out];have o:=ue (a:=⟨w.heap.size,0,none⟩) (v:=.int .i64 0) (cN w.heap.size rfl rfl) c;have q:=ue (a:=⟨w.heap.size,1,none⟩) (v:=.bool false) (cN w.heap.size rfl rfl) c;have m:W.frozen? ⟨w.heap.size,0,none⟩=false:=by
  rw[c.frozen (p:=⟨w.heap.size,0,none⟩) (by simp)];exact qf w _ 207 _ _ (by omega) (by simp)
 have n:W.frozen? ⟨w.heap.size,1,none⟩=false:=by
  rw[c.frozen (p:=⟨w.heap.size,1,none⟩) (by simp)];exact qf w _ 207 _ _ (by omega) (by simp)
 have h:=ua (uf (ui w _) c);go_wp2;refine bodyPost_ret (v:=.agg #[.int .i64 z,.bool l]) ?_ rfl ?_
 ·simp[results,Tryz.f151,go_sem, *]
 exact⟨rfl,uK (uK h _ _ _ (by omega)) _ _ _ (by omega)⟩
theorem udO(b pos ln lc:Nat)la w(c3:w.cell? ⟨b,3,none⟩=some (.int .i64 (pos:Int)))(a:w.cell? ⟨b,5,none⟩=some (.slice la ln lc)) :
  Calls Tryz.prog 152 #[.pointer (some ⟨b,0,none⟩)] w (ua7 (.agg #[.int .i64 (pos:Int),.int .i64 (ln:Int)]) w):=by
 have lb:=ud c3;go_enter Tryz.func152,Tryz.ntmps152;go_wp2;go_region;all_goals
  go_wp2;refine bodyPost_ret (v:=.agg #[.int .i64 (pos:Int),.int .i64 (ln:Int)]) ?_ rfl ?_
  ·simp[results,Tryz.f152,go_sem, *]
  exact⟨rfl,(ui w _).drew⟩
end Go.Proofs.YtimfigongapdnaaGreat
