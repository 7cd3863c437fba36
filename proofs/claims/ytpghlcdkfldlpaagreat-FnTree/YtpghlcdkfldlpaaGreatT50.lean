import Derived.Test.YtpghlcdkfldlpaaGreatT48
set_option linter.unusedVariables false
set_option linter.unusedSimpArgs false
set_option maxHeartbeats 40000000
set_option maxRecDepth 100000
namespace Go.Proofs.YtpghlcdkfldlpaaGreat
open Go.RowKit
open M (OpD ue Gr um)
def fnV(f:FuncId):Value:=.func (.func f) #[] #[]
def umL(k:Nat):Value:=.func (.func 141) #[] #[.pointer (some ⟨k,0,none⟩)]
def uix(a b c:Nat):Array Value:=#[fnV 110,fnV 111,fnV 112,fnV 113,fnV 114,fnV 115,fnV 116,fnV 117,fnV 118,umL a,umL b,umL c,fnV 120]
theorem ua1 k w:Calls Tryz.prog 119 #[.int .i64 k] w (λe w'=>e=.returned (.func (.func 141) #[] #[.pointer (some ⟨w.heap.size,0,none⟩)])/\w'=w.alloc (.cells #[.int .i64 k] 3)):=by
 go_enter Tryz.func119,Tryz.ntmps119;go_wp2;go_ret;exact⟨rfl,rfl⟩
theorem udF a b f c w(d:(w.cell? a).isSome=true)(e:w.frozen? a=false):(store a (.func b f c)).run Tryz.prog w=.ok () (w.setCell a (.func b f c)):=by
 obtain⟨u,g⟩:=Option.isSome_iff_exists.1 d;rw[run_store _ _ _ _ _ rfl,g];simp[e]
attribute [local go_sem] udF
def upG(w:World)(b:Nat)(a c g h v4 i j k l m d e f:Value):World:=(((((((((((((w.setCell ⟨b,0,none⟩ a).setCell ⟨b,1,none⟩ c).setCell ⟨b,2,none⟩ g).setCell ⟨b,3,none⟩ h).setCell ⟨b,4,none⟩ v4).setCell ⟨b,5,none⟩ i).setCell ⟨b,6,none⟩ j).setCell ⟨b,7,none⟩ k).setCell ⟨b,8,none⟩ l).setCell ⟨b,9,none⟩ m).setCell ⟨b,10,none⟩ d).setCell ⟨b,11,none⟩ e).setCell ⟨b,12,none⟩ f)
theorem uiy w b a c g i v4 j l m n p d e f:Only (λx=>x=b) w (upG w b a c g i v4 j l m n p d e f):=by
 unfold upG;have h:=λ(o:Nat) (v:Value) {W:World} (k:Only (λx=>x=b) w W)=>Only.set (P:=λx=>x=b) k b o v rfl
 exact(h 12 f (h 11 e (h 10 d (h 9 p (h 8 n (h 7 m (h 6 l (h 5 j (h 4 v4 (h 3 i (h 2 g (h 1 c (h 0 a (Only.refl _ _))))))))))))))
structure umM(w:World)(e:Ending)(w':World):Prop where
 ex:∃k0 k1 k2,e=.returned (.agg (uix k0 k1 k2))/\w'.cell? ⟨k0,0,none⟩=some (.int .i64 0)/\w'.cell? ⟨k1,0,none⟩=some (.int .i64 1)/\w'.cell? ⟨k2,0,none⟩=some (.int .i64 2)
 bel:Below w.heap.size w w'
theorem ug8 w:Calls Tryz.prog 78 #[] w (umM w):=by
 go_enter Tryz.func78,Tryz.ntmps78;go_wp2_with fail;refine(ua1 _ _).mono ?_;rintro e w' ⟨rfl,rfl⟩;go_wp2_with fail;refine(ua1 _ _).mono ?_;rintro e w' ⟨rfl,rfl⟩;go_wp2_with fail;refine(ua1 _ _).mono ?_;rintro e w' ⟨rfl,rfl⟩;have b:((((w.alloc (.cells #[.nilFunc,.nilFunc,.nilFunc,.nilFunc,.nilFunc,.nilFunc,.nilFunc,.nilFunc,.nilFunc,.nilFunc,.nilFunc,.nilFunc,.nilFunc] 142)).alloc (.cells #[.int .i64 0] 3)).alloc (.cells #[.int .i64 1] 3)).alloc (.cells #[.int .i64 2] 3)).heap[w.heap.size]?=some (.cells #[.nilFunc,.nilFunc,.nilFunc,.nilFunc,.nilFunc,.nilFunc,.nilFunc,.nilFunc,.nilFunc,.nilFunc,.nilFunc,.nilFunc,.nilFunc] 142):=uag (uag (uag (yE w _ _ rfl) _) _) _;have i:((((w.alloc (.cells #[.nilFunc,.nilFunc,.nilFunc,.nilFunc,.nilFunc,.nilFunc,.nilFunc,.nilFunc,.nilFunc,.nilFunc,.nilFunc,.nilFunc,.nilFunc] 142)).alloc (.cells #[.int .i64 0] 3)).alloc (.cells #[.int .i64 1] 3)).alloc (.cells #[.int .i64 2] 3)).cell? ⟨w.heap.size+1,0,none⟩=some (.int .i64 0):=uv _ (uv _ (cN (w.heap.size+1) (by simp) rfl));have k:((((w.alloc (.cells #[.nilFunc,.nilFunc,.nilFunc,.nilFunc,.nilFunc,.nilFunc,.nilFunc,.nilFunc,.nilFunc,.nilFunc,.nilFunc,.nilFunc,.nilFunc] 142)).alloc (.cells #[.int .i64 0] 3)).alloc (.cells #[.int .i64 1] 3)).alloc (.cells #[.int .i64 2] 3)).cell? ⟨w.heap.size+1+1,0,none⟩=some (.int .i64 1):=uv _ (cN (w.heap.size+1+1) (by simp) rfl);have l:((((w.alloc (.cells #[.nilFunc,.nilFunc,.nilFunc,.nilFunc,.nilFunc,.nilFunc,.nilFunc,.nilFunc,.nilFunc,.nilFunc,.nilFunc,.nilFunc,.nilFunc] 142)).alloc (.cells #[.int .i64 0] 3)).alloc (.cells #[.int .i64 1] 3)).alloc (.cells #[.int .i64 2] 3)).cell? ⟨w.heap.size+1+1+1,0,none⟩=some (.int .i64 2):=cN (w.heap.size+1+1+1) (by simp) rfl;have d:Hid (Below w.heap.size w ((((w.alloc (.cells #[.nilFunc,.nilFunc,.nilFunc,.nilFunc,.nilFunc,.nilFunc,.nilFunc,.nilFunc,.nilFunc,.nilFunc,.nilFunc,.nilFunc,.nilFunc] 142)).alloc (.cells #[.int .i64 0] 3)).alloc (.cells #[.int .i64 1] 3)).alloc (.cells #[.int .i64 2] 3))):=ud (uep w _ _ _) (uf _ _);simp only[World.size_alloc];generalize (((w.alloc (.cells #[.nilFunc,.nilFunc,.nilFunc,.nilFunc,.nilFunc,.nilFunc,.nilFunc,.nilFunc,.nilFunc,.nilFunc,.nilFunc,.nilFunc,.nilFunc] 142)).alloc (.cells #[.int .i64 0] 3)).alloc (.cells #[.int .i64 1] 3)).alloc (.cells #[.int .i64 2] 3)=Y at *;have m:=ui (j:=0) b rfl;have o:=ur (j:=0) b;have E:=ui (j:=1) b rfl;have p:=ur (j:=1) b;have I:=ui (j:=2) b rfl;have t:=ur (j:=2) b;have J:=ui (j:=3) b rfl;have u:=ur (j:=3) b;have L:=ui (j:=4) b rfl;have g4:=ur (j:=4) b;have N:=ui (j:=5) b rfl;have y:=ur (j:=5) b;have O:=ui (j:=6) b rfl;have z:=ur (j:=6) b;have P:=ui (j:=7) b rfl;have A:=ur (j:=7) b;have Q:=ui (j:=8) b rfl;have B:=ur (j:=8) b;have R:=ui (j:=9) b rfl;have C:=ur (j:=9) b;have F:=ui (j:=10) b rfl;have q:=ur (j:=10) b;have G:=ui (j:=11) b rfl;have r:=ur (j:=11) b;have H:=ui (j:=12) b rfl;have s:=ur (j:=12) b;have D:=ub m;have n:=trivial;have g:Hid (∀f,Only (λx=>x=w.heap.size) Y f->umM w (.returned (.agg (uix (w.heap.size+1) (w.heap.size+1+1) (w.heap.size+1+1+1)))) f):=λf c =>
  ⟨⟨_,_,_,rfl,(World.cell?_of_block (a:=⟨w.heap.size+1,0,none⟩) (c.block (w.heap.size+1) (by omega))).trans i,(World.cell?_of_block (a:=⟨w.heap.size+1+1,0,none⟩) (c.block (w.heap.size+1+1) (by omega))).trans k,(World.cell?_of_block (a:=⟨w.heap.size+1+1+1,0,none⟩) (c.block (w.heap.size+1+1+1) (by omega))).trans l⟩,
   ⟨c.os.trans d.os,c.tape.trans d.tape,c.output.trans d.output,by rw[c.size];exact d.size,λx h=>(c.block x (by omega)).trans (d.block x h)⟩⟩
 go_wp2;refine bodyPost_ret (v:=.agg (uix (w.heap.size+1) (w.heap.size+1+1) (w.heap.size+1+1+1))) ?_ rfl ?_
 ·unfold uix fnV umL;simp[results,Tryz.f78,go_sem, *]
 exact g _ (uiy _ _ _ _ _ _ _ _ _ _ _ _ _ _ _)
theorem uiz fuel most w:Calls Tryz.prog 36 #[.int .i64 fuel,.int .i64 most] w (upK (decide (0<=fuel/\fuel<=50000/\0<=most/\most<=1000)) w):=by
 by_cases a:0<=fuel
 ·by_cases b:fuel<=50000
  ·by_cases c:0<=most
   ·by_cases d:most<=1000
    ·go_enter Tryz.func36,Tryz.ntmps36;go_wp2;go_ret;exact⟨by simp[a,b,c,d],rfl⟩
    go_enter Tryz.func36,Tryz.ntmps36;go_wp2;go_ret;exact⟨by simp;omega,rfl⟩
   go_enter Tryz.func36,Tryz.ntmps36;go_wp2;go_ret;exact⟨by simp;omega,rfl⟩
  go_enter Tryz.func36,Tryz.ntmps36;go_wp2;go_ret;exact⟨by simp;omega,rfl⟩
 go_enter Tryz.func36,Tryz.ntmps36;go_wp2;go_ret;exact⟨by simp;omega,rfl⟩
theorem ug9 kd b e c a d w(f:a<=1048576):Calls Tryz.prog 38 #[.agg #[.int .i64 kd,.int .i64 b,.int .i64 e,.slice c a d]] w (xX (decide (512<a)) w):=by
 by_cases h:512<a
 ·have h':(512:Int)<(a:Int):=by omega
  go_enter Tryz.func38,Tryz.ntmps38;go_wp2;go_ret;exact⟨by simp[h],uf w _⟩
 have h':¬(512:Int)<(a:Int):=by omega
 go_enter Tryz.func38,Tryz.ntmps38;go_wp2;go_ret;exact⟨by simp[h],uf w _⟩
def urK(n:Nat)(R:Nat->um)(w:World)(e:Ending)(w':World):Prop:=(∃r:Int,e=.returned (.int .i64 r)/\(0<=r↔∃i,i<n/\512<(R i).sl)/\-1<=r/\r<=1048576)/\Below w.heap.size w w'
def idI(w:World)(n:Nat)(R:Nat->um)(a:Value)(wr:World):Prop:=∃k:Nat,k<=n/\a=.int .i64 (k:Int)/\(∀i,i<k->¬512<(R i).sl)/\Below w.heap.size w wr
theorem ukT Q a n c R w(d:InsA Q w a n R)(N:n<=1048576)(G:∀i,i<n->(R i).sl<=1048576) :
  Calls Tryz.prog 77 #[.slice a n c,.func (.func 38) #[] #[]] w (urK n R w):=by
 have A:=ua d;have B:=ua G;go_enter Tryz.func77,Tryz.ntmps77;go_wp2;go_loopw [8] (λs wr=>idI w n R s wr) (λs _=>n-(intOf s).toNat)
 case atStart=>exact⟨0,Nat.zero_le _,rfl,λi p=>absurd p (Nat.not_lt_zero _),Below.refl _ _⟩
 case round =>
  obtain⟨k,L,rfl,E,v⟩:=hrel;have t:=ua E;have l:=ua v;by_cases q:k<n
  ·have d:=A.later v;rcases d with J|⟨b,off,rfl,O,d⟩
   ·omega
   obtain⟨C,H,I,y,z,D,P⟩:=d k q;have lb:=ub C;have hlt':(k:Int)<(n:Int):=(by omega);have r:=B k q;obtain⟨g,x⟩:=nm ((R k).sl);have u:=ua x;rw[x]at D r;by_cases j:512<g
   ·have F:decide (512<g)=true:=(by simp[j]);have o:=ua j;go_wp2_with (go_at_call 38;refine(ug9 _ _ _ y g z _ r).mono ?_;rintro e W ⟨rfl,f⟩;have m:Hid _:=f;clear f);go_ret;exact⟨⟨(k:Int),rfl,⟨λ_=>⟨k,q,by rw[u.out];exact o⟩,λ_=>by omega⟩,by omega,by omega⟩,ud l m⟩
   have F:decide (512<g)=false:=(by simp[j]);have o:=ua j;go_wp2_with (go_at_call 38;refine(ug9 _ _ _ y g z _ r).mono ?_;rintro e W ⟨rfl,f⟩;have m:Hid _:=f;clear f);go_roundw
   case rel=>exact⟨k+1,by omega,by go_num,vB t (by rw[u.out];exact o),ud l m⟩
   case measure=>simp[intOf];omega
  obtain rfl:k=n:=by omega
  go_wp2;go_ret;exact⟨⟨-1,rfl,⟨λh=>by omega,λ⟨i,p,h⟩=>absurd h (t i p)⟩,by omega,by omega⟩,l⟩
theorem ufV Q a n c R w(l:InsA Q w a n R)(o:n<=1048576)(p:∀i,i<n->(R i).sl<=1048576) :
  Calls Tryz.prog 37 #[.slice a n c,.func (.func 38) #[] #[]] w (xS (∃i,i<n/\512<(R i).sl) w):=by
 have h:=ua l;have j:=ua p;go_enter Tryz.func37,Tryz.ntmps37;go_wp2_with fail;refine(ukT Q a n c R _ h o j).mono ?_;rintro e W ⟨⟨r,rfl,g,s,t⟩,f⟩;have d:=ua g;have b:=ua f;clear g f;by_cases k:0<=r
 ·go_wp2;go_ret;exact⟨⟨true,rfl,xI (d.1 k)⟩,b⟩
 have m:decide (0<=r)=false:=by simp;omega
 go_wp2;go_ret;exact⟨⟨false,by rw[<-m];rfl,uJ (λq=>by have:=d.2 q;omega)⟩,b⟩
def frC(f:FrD)(n:Bool):Value :=
 if f.kind=0 then .iface 200 (.agg #[.int .i64 f.to,.bool n,.int .i64 (f.pos:Int),.int .i64 (f.log:Int)])
 else if f.kind=1 then .iface 205 (.agg #[.int .i64 f.to,.bool n,.int .i64 (f.pos:Int),.int .i64 (f.log:Int)])
 else .iface 208 (.agg #[.int .i64 f.to,.bool n])
def vv:Bool->List FrD->List Value
 |_,[]=>[]
 |n,f::r=>frC f (n||f.kind==1)::vv (n||f.kind==1) r
theorem ua2:∀(l:List FrD) (n:Bool),(vv n l).length=l.length
 |[],_=>rfl
 |f::r,n=>by rw[vv,List.length_cons,ua2 r,List.length_cons]
theorem uco f:∀(l:List FrD) (n:Bool),vv n (l++[f])=vv n l++[frC f ((n||l.any (λf=>f.kind==1))||f.kind==1)]
 |[],n=>by simp[vv]
 |g::r,n=>by
  rw[List.cons_append,vv,uco f r,vv,List.cons_append,List.any_cons,Bool.or_assoc n]
theorem qX:∀(l:List FrD) (n:Bool) (j:Nat),vv n (l.take j)=(vv n l).take j
 |[],n,j=>by simp[vv]
 |f::r,n,0=>by simp[vv]
 |f::r,n,j+1=>by rw[List.take_succ_cons,vv,qX r,vv,List.take_succ_cons]
theorem ua3:∀(l:List FrD) (n:Bool) (i:Nat) (f:FrD),l[i]?=some f->(vv n l)[i]?=some (frC f (n||(l.take (i+1)).any (λf=>f.kind==1)))
 |[],n,i,f,h=>by simp at h
 |g::r,n,0,f,h=>by simp at h;subst h;simp[vv]
 |g::r,n,i+1,f,h=>by
  simp at h;rw[vv,List.getElem?_cons_succ,ua3 r _ i f h,List.take_succ_cons,List.any_cons,Bool.or_assoc]
structure MacC(w:World)(b:Nat)(s:MSt)(ia:Option Addr)(il ic:Nat)(most:Int)(ka:Option Addr)(kn kc:Nat)(la:Option Addr)(ln lc:Nat):Prop where
 c0:w.cell? ⟨b,0,none⟩=some (.slice ia il ic)
 c1:w.cell? ⟨b,1,none⟩=some (.int .i64 most)
 c2:w.cell? ⟨b,2,none⟩=some (.int .i64 s.at_)
 c3:w.cell? ⟨b,3,none⟩=some (.int .i64 (s.pos:Int))
 c4:w.cell? ⟨b,4,none⟩=some (.slice ka kn kc)
 c5:w.cell? ⟨b,5,none⟩=some (.slice la ln lc)
 c6:w.cell? ⟨b,6,none⟩=some (.int .i64 (s.far:Int))
 ex:∀i,i<256->w.cell? ⟨b,7+i,none⟩=some (.bool (s.exp i))
 c8:w.cell? ⟨b,263,none⟩=some (.int .i64 (s.steps:Int))
 c9:w.cell? ⟨b,264,none⟩=some (.int .i64 (s.throws:Int))
 c10:w.cell? ⟨b,265,none⟩=some (.int .i64 s.label)
 fz:∀j,w.frozen? ⟨b,j,none⟩=false
structure MacA(K L:Nat->Prop)(w:World)(b:Nat)(s:MSt)(ia:Option Addr)(il ic:Nat)(most:Int)(ka:Option Addr)(kc:Nat)(la:Option Addr)(lc:Nat):Prop where
 c:MacC w b s ia il ic most ka s.st.length kc la s.log.length lc
 st:OwnC K w (.slice ka s.st.length kc) 1 s.st.length (vv false s.st)
 log:OwnC L w (.slice la s.log.length lc) 3 s.log.length (uY s.log)
 lt:∀x,K x\/L x->x<w.heap.size
 kl:∀x,K x->¬L x
 kb:¬K b
 lb:¬L b
theorem MacC.on{w w' b s d il ic most ka e kc la ln lc}(h:MacC w b s d il ic most ka e kc la ln lc)(k:w'.heap[b]?=w.heap[b]?):MacC w' b s d il ic most ka e kc la ln lc:=by
 have c:∀o,w'.cell? ⟨b,o,none⟩=w.cell? ⟨b,o,none⟩:=λo=>World.cell?_of_block (a:=⟨b,o,none⟩) k
 exact⟨(c _).trans h.c0,(c _).trans h.c1,(c _).trans h.c2,(c _).trans h.c3,(c _).trans h.c4,(c _).trans h.c5,(c _).trans h.c6,λi f=>(c _).trans (h.ex i f),(c _).trans h.c8,(c _).trans h.c9,(c _).trans h.c10,λj=>(World.frozen?_of_block (a:=⟨b,j,none⟩) k).trans (h.fz j)⟩
theorem MacA.on{K L w w' b s d il ic most ka kc la lc}(h:MacA K L w b s d il ic most ka kc la lc)(k:∀x,K x\/L x\/x=b->w'.heap[x]?=w.heap[x]?)(e:w.heap.size<=w'.heap.size):MacA K L w' b s d il ic most ka kc la lc :=
 ⟨h.c.on (k b (.inr (.inr rfl))),h.st.on (λx a=>k x (.inl a)),h.log.on (λx a=>k x (.inr (.inl a))),λx a=>Nat.lt_of_lt_of_le (h.lt x a) e,h.kl,h.kb,h.lb⟩
theorem MacA.bl{K L w b s a il ic most ka kc la lc}(h:MacA K L w b s a il ic most ka kc la lc):b<w.heap.size:=ub h.c.c0
theorem MacA.later{K L w w' b s a il ic most ka kc la lc}(h:MacA K L w b s a il ic most ka kc la lc)(k:Below w.heap.size w w'):MacA K L w' b s a il ic most ka kc la lc :=
 h.on (λx c=>k.block x (by rcases c with q|q|q;exact h.lt x (.inl q);exact h.lt x (.inr q);rw[q];exact h.bl)) k.size
theorem MacC.set2{w b s a il ic most ka c kc la ln lc}(h:MacC w b s a il ic most ka c kc la ln lc)z:MacC (w.setCell ⟨b,2,none⟩ (.int .i64 z)) b { s with at_:=z } a il ic most ka c kc la ln lc :=
 ⟨ug (by omega) h.c0,ug (by omega) h.c1,uA h.c2,ug (by omega) h.c3,ug (by omega) h.c4,ug (by omega) h.c5,ug (by omega) h.c6,λi d=>ug (by omega) (h.ex i d),ug (by omega) h.c8,ug (by omega) h.c9,ug (by omega) h.c10,λj=>(World.frozen?_setCell _ _ _ _).trans (h.fz j)⟩
theorem MacC.set3{w}{b:Nat}{s a}{il ic:Nat}{most:Int}{ka}{c kc:Nat}{la}{ln lc:Nat}(h:MacC w b s a il ic most ka c kc la ln lc)(z:Nat):MacC (w.setCell ⟨b,3,none⟩ (.int .i64 (z:Int))) b { s with pos:=z } a il ic most ka c kc la ln lc :=
 ⟨ug (by omega) h.c0,ug (by omega) h.c1,ug (by omega) h.c2,uA h.c3,ug (by omega) h.c4,ug (by omega) h.c5,ug (by omega) h.c6,λi d=>ug (by omega) (h.ex i d),ug (by omega) h.c8,ug (by omega) h.c9,ug (by omega) h.c10,λj=>(World.frozen?_setCell _ _ _ _).trans (h.fz j)⟩
theorem MacC.set4{w b s a il ic most ka g kc la ln lc}(h:MacC w b s a il ic most ka g kc la ln lc)c e d:MacC (w.setCell ⟨b,4,none⟩ (.slice c e d)) b s a il ic most c e d la ln lc :=
 ⟨ug (by omega) h.c0,ug (by omega) h.c1,ug (by omega) h.c2,ug (by omega) h.c3,uA h.c4,ug (by omega) h.c5,ug (by omega) h.c6,λi f=>ug (by omega) (h.ex i f),ug (by omega) h.c8,ug (by omega) h.c9,ug (by omega) h.c10,λj=>(World.frozen?_setCell _ _ _ _).trans (h.fz j)⟩
theorem MacC.set5{w b s a il ic most ka c kc la ln lc}(h:MacC w b s a il ic most ka c kc la ln lc)d f e:MacC (w.setCell ⟨b,5,none⟩ (.slice d f e)) b s a il ic most ka c kc d f e :=
 ⟨ug (by omega) h.c0,ug (by omega) h.c1,ug (by omega) h.c2,ug (by omega) h.c3,ug (by omega) h.c4,uA h.c5,ug (by omega) h.c6,λi g=>ug (by omega) (h.ex i g),ug (by omega) h.c8,ug (by omega) h.c9,ug (by omega) h.c10,λj=>(World.frozen?_setCell _ _ _ _).trans (h.fz j)⟩
theorem MacC.set6{w}{b:Nat}{s a}{il ic:Nat}{most:Int}{ka}{c kc:Nat}{la}{ln lc:Nat}(h:MacC w b s a il ic most ka c kc la ln lc)(z:Nat):MacC (w.setCell ⟨b,6,none⟩ (.int .i64 (z:Int))) b { s with far:=z } a il ic most ka c kc la ln lc :=
 ⟨ug (by omega) h.c0,ug (by omega) h.c1,ug (by omega) h.c2,ug (by omega) h.c3,ug (by omega) h.c4,ug (by omega) h.c5,uA h.c6,λi d=>ug (by omega) (h.ex i d),ug (by omega) h.c8,ug (by omega) h.c9,ug (by omega) h.c10,λj=>(World.frozen?_setCell _ _ _ _).trans (h.fz j)⟩
theorem MacC.set8{w}{b:Nat}{s a}{il ic:Nat}{most:Int}{ka}{c kc:Nat}{la}{ln lc:Nat}(h:MacC w b s a il ic most ka c kc la ln lc)(z:Nat):MacC (w.setCell ⟨b,263,none⟩ (.int .i64 (z:Int))) b { s with steps:=z } a il ic most ka c kc la ln lc :=
 ⟨ug (by omega) h.c0,ug (by omega) h.c1,ug (by omega) h.c2,ug (by omega) h.c3,ug (by omega) h.c4,ug (by omega) h.c5,ug (by omega) h.c6,λi d=>ug (by omega) (h.ex i d),uA h.c8,ug (by omega) h.c9,ug (by omega) h.c10,λj=>(World.frozen?_setCell _ _ _ _).trans (h.fz j)⟩
theorem MacC.set9{w}{b:Nat}{s a}{il ic:Nat}{most:Int}{ka}{c kc:Nat}{la}{ln lc:Nat}(h:MacC w b s a il ic most ka c kc la ln lc)(z:Nat):MacC (w.setCell ⟨b,264,none⟩ (.int .i64 (z:Int))) b { s with throws:=z } a il ic most ka c kc la ln lc :=
 ⟨ug (by omega) h.c0,ug (by omega) h.c1,ug (by omega) h.c2,ug (by omega) h.c3,ug (by omega) h.c4,ug (by omega) h.c5,ug (by omega) h.c6,λi d=>ug (by omega) (h.ex i d),ug (by omega) h.c8,uA h.c9,ug (by omega) h.c10,λj=>(World.frozen?_setCell _ _ _ _).trans (h.fz j)⟩
theorem MacC.set10{w b s a il ic most ka c kc la ln lc}(h:MacC w b s a il ic most ka c kc la ln lc)z:MacC (w.setCell ⟨b,265,none⟩ (.int .i64 z)) b { s with label:=z } a il ic most ka c kc la ln lc :=
 ⟨ug (by omega) h.c0,ug (by omega) h.c1,ug (by omega) h.c2,ug (by omega) h.c3,ug (by omega) h.c4,ug (by omega) h.c5,ug (by omega) h.c6,λi d=>ug (by omega) (h.ex i d),ug (by omega) h.c8,ug (by omega) h.c9,uA h.c10,λj=>(World.frozen?_setCell _ _ _ _).trans (h.fz j)⟩
theorem MacA.put{K L w w' b s s' d il ic most ka kc la lc}(h:MacA K L w b s d il ic most ka kc la lc)(c:Only (λx=>x=b) w w')(g:s'.st=s.st)(f:s'.log=s.log)(i:MacC w' b s' d il ic most ka s.st.length kc la s.log.length lc):MacA K L w' b s' d il ic most ka kc la lc:=by
 refine⟨by rw[g,f];exact i,?_,?_,λx a=>by rw[c.size];exact h.lt x a,h.kl,h.kb,h.lb⟩
 ·rw[g];exact h.st.on (λx a=>c.block x (λe=>h.kb (e▸a)))
 rw[f];exact h.log.on (λx a=>c.block x (λe=>h.lb (e▸a)))
def jP(t:MSt):Int:=if t.done then t.code else -1
def ActIs(t:MSt)(K L:Nat->Prop)(b:Nat)(d:Option Addr)(il ic:Nat)(most:Int)(w:World)(e:Ending)(w':World):Prop :=
 e=.returned (.int .i64 (jP t))/\∃z st ka kc la lc,∃a c:Nat->Prop,(t.done=false->z=t.at_/\st=t.st)/\MacA a c w' b { t with at_:=z,st:=st } d il ic most ka kc la lc /\
  (∀x,a x->K x\/New w w' x)/\(∀x,c x->L x\/New w w' x)/\Kept (λx=>K x\/L x\/x=b) w w'
def um5(v:Value)(W:World)(e:Ending)(w':World):Prop:=e=.returned v/\w'=W
theorem jR b ka kc w(a:w.cell? ⟨b,4,none⟩=some (.slice ka 0 kc)) :
  Calls Tryz.prog 140 #[.pointer (some ⟨b,0,none⟩)] w (um5 .nilIface w):=by
 go_enter Tryz.func140,Tryz.ntmps140;go_wp2;go_ret;exact⟨rfl,rfl⟩
theorem vm b g j kc v w(a:w.cell? ⟨b,4,none⟩=some (.slice (some ⟨g,0,none⟩) (j+1) kc))(e:w.frozen? ⟨b,4,none⟩=false)(c:w.cell? ⟨g,j,none⟩=some v)(f:j<=1000)(h:j+1<=kc) :
  Calls Tryz.prog 140 #[.pointer (some ⟨b,0,none⟩)] w (um5 v (w.setCell ⟨b,4,none⟩ (.slice (some ⟨g,0,none⟩) j kc))):=by
 have d:((j+1:Nat):Int)-1=(j:Int):=by omega
 have i:(j:Int)<((j+1:Nat):Int):=by omega
 have hk':(j:Int)<=(kc:Int):=by omega
 go_enter Tryz.func140,Tryz.ntmps140;go_wp2;go_ret;exact⟨rfl,rfl⟩
theorem udJ:(Tryz.prog.info? 194).map (·.size)=some 2:=by kernel_rfl
theorem uk0 : (Tryz.prog.info? 200).bind (fun i => (i.methods.find? (·.name == "loop.example/s0055/impl.head")).map (fun m => (m.path, m.func))) = some (#[⟨200, 0, false⟩], some (166, false)) := by kernel_rfl
theorem uiH fuel a b c d w : (method (fuel + 1) 200 (.agg #[a, b, c, d]) "loop.example/s0055/impl.head").run Tryz.prog w = .ok (166, .agg #[a, b]) w := by
 obtain⟨i,hi,hm⟩:=Option.bind_eq_some_iff.1 uk0;obtain⟨m,hf,hmm⟩:=Option.map_eq_some_iff.1 hm;simp only[Prod.mk.injEq]at hmm;obtain⟨j,hj,hs⟩:=Option.map_eq_some_iff.1 udJ;unfold method;simp[typeInfo,hi,hf,hmm.1,hmm.2,hj,hs,follow,run_underlying Tryz.underlying200,run_underlying Tryz.underlying194,receiverAt,Go.part,isAgg,sizeOf,Place.get]
theorem uqK : (Tryz.prog.info? 205).bind (fun i => (i.methods.find? (·.name == "loop.example/s0055/impl.head")).map (fun m => (m.path, m.func))) = some (#[⟨205, 0, false⟩], some (166, false)) := by kernel_rfl
theorem uo0 fuel a b c d w : (method (fuel + 1) 205 (.agg #[a, b, c, d]) "loop.example/s0055/impl.head").run Tryz.prog w = .ok (166, .agg #[a, b]) w := by
 obtain⟨i,hi,hm⟩:=Option.bind_eq_some_iff.1 uqK;obtain⟨m,hf,hmm⟩:=Option.map_eq_some_iff.1 hm;simp only[Prod.mk.injEq]at hmm;obtain⟨j,hj,hs⟩:=Option.map_eq_some_iff.1 udJ;unfold method;simp[typeInfo,hi,hf,hmm.1,hmm.2,hj,hs,follow,run_underlying Tryz.underlying205,run_underlying Tryz.underlying194,receiverAt,Go.part,isAgg,sizeOf,Place.get]
theorem uqL : (Tryz.prog.info? 208).bind (fun i => (i.methods.find? (·.name == "loop.example/s0055/impl.head")).map (fun m => (m.path, m.func))) = some (#[⟨208, 0, false⟩], some (166, false)) := by kernel_rfl
theorem uo1 fuel a b w : (method (fuel + 1) 208 (.agg #[a, b]) "loop.example/s0055/impl.head").run Tryz.prog w = .ok (166, .agg #[a, b]) w := by
 obtain⟨i,hi,hm⟩:=Option.bind_eq_some_iff.1 uqL;obtain⟨m,hf,hmm⟩:=Option.map_eq_some_iff.1 hm;simp only[Prod.mk.injEq]at hmm;obtain⟨j,hj,hs⟩:=Option.map_eq_some_iff.1 udJ;unfold method;simp[typeInfo,hi,hf,hmm.1,hmm.2,hj,hs,follow,run_underlying Tryz.underlying208,run_underlying Tryz.underlying194,receiverAt,Go.part,isAgg,sizeOf,Place.get]
theorem ubW z n w:(Instr.field 194 (.agg #[.int .i64 z,.bool n]) 1).run Tryz.prog w=.ok (.bool n) w:=by
 simp[Instr.field,run_underlying Tryz.underlying194,run_underlying Tryz.underlying4,Go.part,isAgg,asAgg]
theorem udK z n w:Calls Tryz.prog 166 #[.agg #[.int .i64 z,.bool n]] w (ua8 (.agg #[.int .i64 z,.bool n]) w):=by
 go_enter Tryz.func166,Tryz.ntmps166;go_wp2;refine bodyPost_ret (v:=.agg #[.int .i64 z,.bool n]) ?_ rfl ⟨rfl,vb w _ _⟩;simp[results,Tryz.f166,go_sem]
theorem uhg b ka kc w(a:w.cell? ⟨b,4,none⟩=some (.slice ka 0 kc)) :
  Calls Tryz.prog 134 #[.pointer (some ⟨b,0,none⟩)] w (xX false w):=by
 go_enter Tryz.func134,Tryz.ntmps134;go_wp2;go_ret;exact⟨rfl,Below.refl _ _⟩
theorem uhh b g j kc f n w(k:w.cell? ⟨b,4,none⟩=some (.slice (some ⟨g,0,none⟩) (j+1) kc))(d:w.cell? ⟨g,j,none⟩=some (frC f n))(m:j<=1000) :
  Calls Tryz.prog 134 #[.pointer (some ⟨b,0,none⟩)] w (xX n w):=by
 have l:((j+1:Nat):Int)-1=(j:Int):=by omega
 have o:(j:Int)<((j+1:Nat):Int):=by omega
 unfold frC at d;split at d
 ·skip
  have h:=ubW f.to n;have i:=λfuel w=>uiH fuel (.int .i64 f.to) (.bool n) (.int .i64 (f.pos:Int)) (.int .i64 (f.log:Int)) w
  go_enter Tryz.func134,Tryz.ntmps134;go_wp2_with (go_at_call 166;refine(udK _ _ _).mono ?_;rintro e W ⟨rfl,a⟩;have c:Hid _:=a;clear a);go_ret;exact⟨rfl,c⟩
 split at d
 ·skip
  have h:=ubW f.to n;have i:=λfuel w=>uo0 fuel (.int .i64 f.to) (.bool n) (.int .i64 (f.pos:Int)) (.int .i64 (f.log:Int)) w
  go_enter Tryz.func134,Tryz.ntmps134;go_wp2_with (go_at_call 166;refine(udK _ _ _).mono ?_;rintro e W ⟨rfl,a⟩;have c:Hid _:=a;clear a);go_ret;exact⟨rfl,c⟩
 skip
 have h:=ubW f.to n;have i:=λfuel w=>uo1 fuel (.int .i64 f.to) (.bool n) w
 go_enter Tryz.func134,Tryz.ntmps134;go_wp2_with (go_at_call 166;refine(udK _ _ _).mono ?_;rintro e W ⟨rfl,a⟩;have c:Hid _:=a;clear a);go_ret;exact⟨rfl,c⟩
theorem qY{K w ka kc l j f}(h:OwnC K w (.slice ka l.length kc) 1 l.length (vv false l))(m:l.length=j+1)(b:l[j]?=some f) :
  ∃g,ka=some ⟨g,0,none⟩/\K g/\l.length<=kc/\w.cell? ⟨g,j,none⟩=some (frC f (l.any (λf=>f.kind==1))):=by
 rcases h with⟨_,e,_⟩|⟨g,cap,e,c,d,i,a,k⟩
 ·omega
 injection e with e1 e2 e3;refine⟨g,e1,c,by omega,?_⟩;rw[a j (by rw[ua2];omega),ua3 l false j f b,List.take_of_length_le (by omega),Bool.false_or]
theorem qp K L b s m il ic most ka kc la lc w(i:MacA K L w b s m il ic most ka kc la lc)(p:s.st.length<=1000) :
  Calls Tryz.prog 134 #[.pointer (some ⟨b,0,none⟩)] w (xX s.inNot w):=by
 have a:=i.c.c4;rcases Nat.eq_zero_or_pos s.st.length with d|d
 ·have e:s.inNot=false:=by unfold MSt.inNot;rw[List.eq_nil_of_length_eq_zero d];rfl
  rw[e];rw[d]at a;exact uhg b ka kc w a
 obtain⟨j,h⟩:∃j,s.st.length=j+1:=⟨s.st.length-1,by omega⟩;obtain⟨f,l,_⟩:=ua7 h;obtain⟨g,rfl,n,o,k⟩:=qY i.st h l;rw[h]at a;exact uhh b g j kc f s.inNot w a k (by omega)
theorem ubA K L b s f il ic most ka kc la lc z w(j:MacA K L w b s f il ic most ka kc la lc)(k:s.st.length<=1000) :
  Calls Tryz.prog 138 #[.pointer (some ⟨b,0,none⟩),.int .i64 z] w (ua8 (.agg #[.int .i64 z,.bool s.inNot]) w):=by
 have g:=ua j;obtain⟨l,d⟩:=nm s.inNot;have i:=ua d;rw[d];go_enter Tryz.func138,Tryz.ntmps138;go_wp2_with fail;refine(qp K L b s f il ic most ka kc la lc _ (g.later (uf w _)) k).mono ?_;rintro e W ⟨rfl,c⟩;rw[i.out];have o:=uc (a:=⟨w.heap.size,0,none⟩) (v:=.int .i64 0) (cN w.heap.size rfl rfl) c;have q:=uc (a:=⟨w.heap.size,1,none⟩) (v:=.bool false) (cN w.heap.size rfl rfl) c;have m:W.frozen? ⟨w.heap.size,0,none⟩=false:=by
  rw[c.frozen (p:=⟨w.heap.size,0,none⟩) (by simp)];exact uaE w _ 194 _ _ (by omega) (by simp)
 have n:W.frozen? ⟨w.heap.size,1,none⟩=false:=by
  rw[c.frozen (p:=⟨w.heap.size,1,none⟩) (by simp)];exact uaE w _ 194 _ _ (by omega) (by simp)
 have h:=ua (ud (uf w _) c);go_wp2;refine bodyPost_ret (v:=.agg #[.int .i64 z,.bool l]) ?_ rfl ?_
 ·simp[results,Tryz.f138,go_sem, *]
 exact⟨rfl,uo (uo h _ _ _ (by omega)) _ _ _ (by omega)⟩
theorem udL(b pos ln lc:Nat)la w(a:w.cell? ⟨b,3,none⟩=some (.int .i64 (pos:Int)))(c:w.cell? ⟨b,5,none⟩=some (.slice la ln lc)) :
  Calls Tryz.prog 139 #[.pointer (some ⟨b,0,none⟩)] w (ua8 (.agg #[.int .i64 (pos:Int),.int .i64 (ln:Int)]) w):=by
 have lb:=ub a;go_enter Tryz.func139,Tryz.ntmps139;go_wp2;go_region;all_goals
  go_wp2;refine bodyPost_ret (v:=.agg #[.int .i64 (pos:Int),.int .i64 (ln:Int)]) ?_ rfl ?_
  ·simp[results,Tryz.f139,go_sem, *]
  exact⟨rfl,(uf w _).drew⟩
end Go.Proofs.YtpghlcdkfldlpaaGreat
