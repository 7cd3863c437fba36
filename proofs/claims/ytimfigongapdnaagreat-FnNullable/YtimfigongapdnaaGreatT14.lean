import Derived.Test.YtimfigongapdnaaGreatT13
set_option linter.unusedVariables false
set_option linter.unusedSimpArgs false
set_option maxHeartbeats 40000000
set_option maxRecDepth 100000
namespace Go.Proofs.YtimfigongapdnaaGreat
open Go.RowKit
open M (OpD ug Gr)
def ukh(W:World)(a:Option Addr)(o:OpD)(l:List (Nat×Opn)):Prop :=
  (M.ar o.kind=1->∃g b s x r,l=(s,x)::r/\a=some ⟨g,b,none⟩/\OpnC W g b x) /\
  (M.ar o.kind=2->∃g b d y c x r,l=(d,y)::(c,x)::r/\a=some ⟨g,b,none⟩/\OpnC W g b x/\OpnC W g (b+6) y)
theorem un0 args w:(callFunc 113 args).run Tryz.prog w=.ok (.enter 113 args) w:=by
  simp[callFunc,Tryz.func113,Tryz.f113,go_sem]
theorem uki:(Tryz.prog.info? 130).map (fun i=>(i.zero,i.size,i.bytes))=some (some (.agg #[.bool false,.int .u64 0,.int .u64 0,.int .u64 0,.int .u64 0,.bool false]),6,48):=by kernel_rfl
theorem up3:vG 180 130 6 48:=⟨Tryz.underlying180,⟨_,uki,rfl⟩,by omega⟩
def uqO(w:World)(nr n:Nat)(mk:NS)(B:Nat->OpD)(v i:Value)(wr:World):Prop :=
  ∃k g cap:Nat,k<=n/\i=.int .i64 (k:Int)/\v=.slice (some ⟨g,0,none⟩) ((M.stk (uT nr mk) B k).length+1) cap /\
    OwnC (fun b=>w.heap.size<b) wr v 6 ((M.stk (uT nr mk) B k).length+1) (kK (M.stk (uT nr mk) B k))/\At6 wr w.heap.size oz/\Below w.heap.size w wr/\∀p,p∈M.stk (uT nr mk) B k->p.2.beg.OK
theorem up4{w g x}(h:At6 w g x):Src Tryz.prog 6 180 (.slice (some ⟨g,0,none⟩) 1 1) 1 (opl x) w:=by
  obtain⟨b,c,d,e,f,i⟩:=h.cells;refine Src.ofSlice (P:=Tryz.prog) w Tryz.underlying180 ⟨g,0,none⟩ 1 1 (opl x) rfl (fun j u a=>?_) (fun u a=>?_)
  · match j,a with
    |0,a=>simp[opl]at a;subst a;simpa[Addr.add] using b
    |1,a=>simp[opl]at a;subst a;simpa[Addr.add] using c
    |2,a=>simp[opl]at a;subst a;simpa[Addr.add] using d
    |3,a=>simp[opl]at a;subst a;simpa[Addr.add] using e
    |4,a=>simp[opl]at a;subst a;simpa[Addr.add] using f
    |5,a=>simp[opl]at a;subst a;simpa[Addr.add] using i
    |j+6,a=>simp[opl]at a
  · simp[opl]at a
    rcases a with rfl | rfl | rfl | rfl | rfl | rfl<;>rfl
theorem At6.keep'{w w' b x}(h:At6 w b x)(k:w'.heap[b]? = w.heap[b]?):At6 w' b x:=k.trans h
theorem un1{l a}(h:a<=l.length):∃post,kK l=kK (l.drop a)++post/\(l.drop a).length+a=l.length:=by
  induction a generalizing l with
  |zero=>exact⟨[],by simp,by simp⟩
  |succ a d =>
    match l with
    | []=>simp at h
    | (s,x)::r =>
      obtain⟨post,b,c⟩:=d (l:=r) (by simpa using h)
      exact⟨post++opl x,by rw[kK,b,List.drop_succ_cons,List.append_assoc],by simp;simp at c;omega⟩
theorem up5{Q w g cap o l}(h:OwnC Q w (.slice (some ⟨g,0,none⟩) (l.length+1) cap) 6 (l.length+1) (kK l))(a:M.ar o.kind<=(l.length:Int))d(b:0<M.ar o.kind->d=some ⟨g,(l.length+1-(M.ar o.kind).toNat)*6,none⟩):ukh w d o l:=by
  rcases h with⟨q,_⟩|⟨j,i,q,k,m,n,c,p⟩
  · cases q
  · cases q
    constructor
    · intro e
      rw[e]at a b;match l with
      | []=>simp at a
      | (s,x)::r =>
        refine⟨g,_,s,x,r,rfl,b (by omega),?_⟩
        have:=ugq (pre:=kK r) (post:=[]) (x:=x) c (by simp[kK])
        rw[jA]at this;simpa using this
    · intro e
      rw[e]at a b;match l with
      | []=>simp at a
      | [_]=>simp at a
      | (s2,y)::(s1,x)::r =>
        refine⟨g,_,s2,y,s1,x,r,rfl,b (by omega),?_,?_⟩
        · have:=ugq (pre:=kK r) (post:=opl y) (x:=x) c (by simp[kK,List.append_assoc])
          rw[jA]at this;simpa using this
        · have:=ugq (pre:=kK r++opl x) (post:=[]) (x:=y) c (by simp[kK])
          rw[List.length_append,jA,ubT]at this;have f:(r.length+1)*6+6=(r.length+1+1+1-(2:Int).toNat)*6+6:=by simp
          rw[f]at this;exact this
theorem up6 w:(Instr.makeSlice 180 (.int .i64 1) (.int .i64 1)).run Tryz.prog w=.ok (.slice (some ⟨w.heap.size,0,none⟩) 1 1) (w.alloc (qt oz)):=by
  obtain⟨i,d,b⟩:=Option.map_eq_some_iff.1 uki;simp only[Prod.mk.injEq]at b;obtain⟨g,f,c⟩:=b;have a:=run_make (P:=Tryz.prog) w 180 130 i _ Tryz.underlying180 d g .i64 .i64 1 1 (by omega) (Int.le_refl _) (by rw[c];omega) (by omega)
  rw[f]at a;have e:madeCells (Value.agg #[.bool false,.int .u64 0,.int .u64 0,.int .u64 0,.int .u64 0,.bool false]).cells (Int.toNat 1*6)=#[.bool false,.int .u64 0,.int .u64 0,.int .u64 0,.int .u64 0,.bool false]:=by kernel_rfl
  rw[e]at a;exact a
theorem un2(w:World):OwnC (fun b=>b=w.heap.size) (w.alloc (qt oz)) (.slice (some ⟨w.heap.size,0,none⟩) 1 1) 6 1 (kK []):=by
  have h:=At6.new w oz;obtain⟨c,d,e,f,g,i⟩:=h.cells;obtain⟨s0,k,l,m,n,o⟩:=h.soft;refine .inr ⟨w.heap.size,1,rfl,rfl,rfl,Nat.le_refl _,fun j a=>?_,fun j a=>?_⟩
  · match j,a with
    |0,_=>exact c
    |1,_=>exact d
    |2,_=>exact e
    |3,_=>exact f
    |4,_=>exact g
    |5,_=>exact i
    |j+6,a =>
      rw[jA]at a;simp at a;omega
  · match j,a with
    |0,_=>exact⟨by rw[c];rfl,s0⟩
    |1,_=>exact⟨by rw[d];rfl,k⟩
    |2,_=>exact⟨by rw[e];rfl,l⟩
    |3,_=>exact⟨by rw[f];rfl,m⟩
    |4,_=>exact⟨by rw[g];rfl,n⟩
    |5,_=>exact⟨by rw[i];rfl,o⟩
    |j+6,a=>omega
theorem jw{Q Q' w v a n cs}(h:OwnC Q w v a n cs)(k:∀b,Q b->Q' b):OwnC Q' w v a n cs:=by
  rcases h with h | ⟨g,cap,e,d,c⟩
  · exact .inl h
  · exact .inr ⟨g,cap,e,k g d,c⟩
theorem udX{Q w w' v d n cs}(h:OwnC Q w v d n cs)(r:0<d)(k:Below w.heap.size w w'):OwnC Q w' v d n cs:=by
  rcases h with h | ⟨g,cap,e,l,c,f,m,i⟩
  · exact .inl h
  · by_cases o:cap=0
    · subst o
      have:n=0:=by omega
      subst this;exact .inr ⟨g,0,e,l,c,f,fun j b=>absurd b (by rw[c];omega),fun j b=>by omega⟩
    · have p:g<w.heap.size:=by
        obtain⟨u,q⟩:=Option.isSome_iff_exists.1 (i 0 (Nat.mul_pos (by omega) r)).1
        exact ud q
      have e':=k.block g p;exact .inr ⟨g,cap,e,l,c,f,fun j b=>by rw[World.cell?_of_block (a:=⟨g,j,none⟩) e'];exact m j b,i.later e'⟩
theorem ulz{w wr W1 W4 nr n k b st mk B l v d}(A:k<n)(i:At6 wr w.heap.size oz)(j:Below w.heap.size w wr)(m:∀p,p∈l->p.2.beg.OK)(r:M.stk (uT nr mk) B (k+1)=M.stp (uT nr mk) (B k) k l)(s:M.stp (uT nr mk) (B k) k l=(st,yd nr mk (B k) l)::l.drop (M.ar (B k).kind).toNat)(f:yd nr mk (B k) l=v)(z:(l.drop (M.ar (B k).kind).toNat).length+1=b)(h:Below wr.heap.size wr W1)(t:OwnC (fun x=>w.heap.size<x\/(W1.alloc (qt v)).heap.size<=x) W4 d 6 (b+1) (kK (l.drop (M.ar (B k).kind).toNat)++opl v))(a:Grew (fun x=>w.heap.size<x) (W1.alloc (qt v)) W4):uqO w nr n mk B d (.int .i64 ((k+1:Nat):Int)) W4:=by
  have e:M.stk (uT nr mk) B (k+1)=(st,v)::l.drop (M.ar (B k).kind).toNat:=by rw[r,s,f]
  have D:=i.lt;have E:=h.size;have hb':Below wr.heap.size wr (W1.alloc (qt v)):=uf h (ui W1 _);have q:OwnC (fun x=>w.heap.size<x) W4 d 6 (b+1) (kK (M.stk (uT nr mk) B (k+1))):=by
    rw[e];exact jw t (fun x q=>by
      rcases q with q | q
      · exact q
      · rw[World.size_alloc]at q;omega)
  rcases q with⟨_,q,_⟩|⟨g,cap,rfl,u,y⟩
  · omega
  have o:(M.stk (uT nr mk) B (k+1)).length+1=b+1:=by rw[e,List.length_cons];omega
  refine⟨k+1,g,cap,by omega,rfl,by rw[o],?_,(i.later hb').keep' (a.block _ (by rw[World.size_alloc];omega) (fun q=>Nat.lt_irrefl _ q)),?_,?_⟩
  · rw[o];exact .inr ⟨g,cap,rfl,u,y⟩
  · refine (j.trans (hb'.mono j.size)).trans ⟨a.os,a.tape,a.output,a.size,fun x C=>a.block x (by rw[World.size_alloc];omega) (fun q=>by omega)⟩
  · intro p c
    rw[e]at c;rcases List.mem_cons.1 c with rfl | c
    · rw[<-f];exact uoF nr mk (B k) l m
    · exact m p (List.mem_of_mem_drop c)
theorem un3 l:∃pre,kK l=pre++opl (M.top l)/\pre.length=l.length*6:=by
  match l with
  | []=>exact⟨[],rfl,rfl⟩
  | (s,v)::r=>exact⟨kK r,rfl,by rw[jA];simp⟩
theorem ur4(m:Nat)(h:m<=1048576):IntKind.i64.wrap (m:Int)=(m:Int):=by
  simp[IntKind.wrap,IntKind.bits,IntKind.signed];omega
theorem un4 Q a n c nr A B mk p1 p2 w(u:OpsA Q w a n B)(ag:n=0\/M.BodyOK nr A n B)(hn:n<=1048576)(hV:∀(o:OpD) (l:List (Nat×Opn)) (W:World) (m f:Option Addr) (s Y:Nat),M.ElemOK nr A o->Below w.heap.size w W->(∀p,p∈l->p.2.beg.OK)->M.ar o.kind<=(l.length:Int)->ukh W f o l ->
      Calls Tryz.prog 113 #[.agg #[.int .i64 o.kind,.slice m o.sl s,.int .i64 o.arg],.slice f (M.ar o.kind).toNat Y,p1,p2] W (qS (yd nr mk o l) W)) :
    Calls Tryz.prog 112 #[.slice a n c,.func (.func 113) #[] #[p1,p2]] w (qS (M.top (M.stk (uT nr mk) B n)) w):=by
  have HB:Hid (OpsA Q w a n B):=u;have aa:Hid (n=0\/M.BodyOK nr A n B):=ag;have HV:Hid (∀(o:OpD) (l:List (Nat×Opn)) (W:World) (m f:Option Addr) (s Y:Nat),M.ElemOK nr A o->Below w.heap.size w W->(∀p,p∈l->p.2.beg.OK)->M.ar o.kind<=(l.length:Int)->ukh W f o l ->
      Calls Tryz.prog 113 #[.agg #[.int .i64 o.kind,.slice m o.sl s,.int .i64 o.arg],.slice f (M.ar o.kind).toNat Y,p1,p2] W (qS (yd nr mk o l) W)):=hV
  clear u ag hV;have bh:=up6;go_enter Tryz.func112,Tryz.ntmps112;go_wp2;go_loopw [5,12] (fun v i wr=>uqO w nr n mk B v i wr) (fun v i _=>n-(intOf i).toNat)
  case atStart =>
    refine⟨0,w.heap.size+1,1,Nat.zero_le _,rfl,by simp[M.stk],?_,?_,uP w _ _,by simp[M.stk]⟩
    · have:=un2 (w.alloc (qt oz))
      rw[World.size_alloc]at this;exact jw this (fun b q=>by omega)
    · exact (At6.new w oz).later (ui _ _)
  case round =>
    obtain⟨k,g,cap,hk,rfl,rfl,V,T,ad,ac⟩:=hrel;have E:Hid (OwnC (fun b=>w.heap.size<b) wr (.slice (some ⟨g,0,none⟩) ((M.stk (uT nr mk) B k).length+1) cap) 6 ((M.stk (uT nr mk) B k).length+1) (kK (M.stk (uT nr mk) B k))):=V
    have R:Hid (At6 wr w.heap.size oz):=T;have D:Hid (Below w.heap.size w wr):=ad;have P:Hid (∀p,p∈M.stk (uT nr mk) B k->p.2.beg.OK):=ac;have ae:=xA V;have bj:=T.lt;clear V T ad ac;by_cases L:k<n
    · have G:M.BodyOK nr A n B:=by
        rcases aa.out with q | q
        · omega
        · exact q
      have hF:M.Fed B k:=fun j hj=>G.2.1 j (by omega)
      have hE:Hid (M.ElemOK nr A (B k)):=G.1 k L;have a6:=M.stk_len (uT nr mk) B k hF;have a0:=G.2.1 k L;have ba:=M.ar_bd (B k).kind;have ay:Hid (M.stk (uT nr mk) B (k+1)=M.stp (uT nr mk) (B k) k (M.stk (uT nr mk) B k)):=rfl;have a2:=M.dep_bd B n k (by omega) (fun j hj=>G.2.1 j (by omega))
      clear hF G;generalize M.stk (uT nr mk) B k=l at *;have S:M.ar (B k).kind<=(l.length:Int):=by omega
      obtain⟨r,hr⟩:∃r:Nat,(M.ar (B k).kind)=(r:Int):=⟨(M.ar (B k).kind).toNat,by omega⟩
      obtain⟨t,J⟩:∃t,l.length+1=t:=⟨_,rfl⟩;obtain⟨b,hb⟩:∃b,t-r=b:=⟨_,rfl⟩;have U:1<=b:=by omega
      have a1:b<=t:=by omega
      have bc:(t:Int)-M.ar (B k).kind=(b:Int):=by omega
      have bd:t<=cap:=by omega
      have be:b<=cap:=by omega
      have bf:t<=2097152:=by omega
      have z:Hid (M.ar (B k).kind=(r:Int)):=hr;have H:Hid (l.length+1=t):=J;have C:Hid (t-r=b):=hb;have O:Hid (M.ar (B k).kind<=(l.length:Int)):=S;obtain⟨st,an⟩:=uss nr mk (B k) k l S;have az:Hid (M.stp (uT nr mk) (B k) k l=(st,yd nr mk (B k) l)::l.drop (M.ar (B k).kind).toNat):=an;rw[J]at E;rw[J];have u:=HB.out.later D.out;rcases u with h0 | ⟨bb,off,rfl,N,u⟩
      · omega
      obtain⟨c0,⟨m,s,c1,a7⟩,c2⟩:=u k L;have bg:bb<wr.heap.size:=ud c0;clear u a7 a6 a0 a2 S an hr J hb ae;have x0:(wr.alloc (.cells #[.int .i64 (B k).kind,.slice m (B k).sl s,.int .i64 (B k).arg] 118)).cell? ⟨wr.heap.size,0,none⟩=some (.int .i64 (B k).kind):=cN wr.heap.size rfl rfl;have x1:(wr.alloc (.cells #[.int .i64 (B k).kind,.slice m (B k).sl s,.int .i64 (B k).arg] 118)).cell? ⟨wr.heap.size,1,none⟩=some (.slice m (B k).sl s):=cN wr.heap.size rfl rfl;have x2:(wr.alloc (.cells #[.int .i64 (B k).kind,.slice m (B k).sl s,.int .i64 (B k).arg] 118)).cell? ⟨wr.heap.size,2,none⟩=some (.int .i64 (B k).arg):=cN wr.heap.size rfl rfl;have bX:Hid (Below wr.heap.size wr (wr.alloc (.cells #[.int .i64 (B k).kind,.slice m (B k).sl s,.int .i64 (B k).arg] 118))):=ui wr _;go_wp2_with (go_at_call 145;refine (yU _ _).mono ?_;rintro e F ⟨rfl,hw⟩;subst F);generalize wr.alloc (.cells #[.int .i64 (B k).kind,.slice m (B k).sl s,.int .i64 (B k).arg] 118)=X at *;obtain⟨v,hv⟩:∃v,yd nr mk (B k) l=v:=⟨_,rfl⟩;have ab:Hid (yd nr mk (B k) l=v):=hv;clear hv;have bi:¬cap=0:=by omega
      have a4:Hid (t-b=(M.ar (B k).kind).toNat):=by show _=_;have:=z.out;have:=C.out;omega
      have ao:∀f:Option Addr,(0<M.ar (B k).kind->f=some ⟨g,b*6,none⟩)->∀W,Below wr.heap.size wr W->Calls Tryz.prog 113 #[.agg #[.int .i64 (B k).kind,.slice m (B k).sl s,.int .i64 (B k).arg],.slice f (t-b) (cap-b),p1,p2] W (fun e F=>e=.returned (.agg #[.bool v.nul,.int .u64 v.beg.a,.int .u64 v.beg.b,.int .u64 v.beg.c,.int .u64 v.beg.d,.bool v.loop])/\Below W.heap.size W F):=fun f a5 W I=>by
        have h:=HV.out (B k) l W m f s (cap-b) hE.out (D.out.trans (I.mono D.out.size)) P.out O.out (up5 (udX (by rw[H.out];exact E.out) (by omega) I) O.out f (fun q=>by rw[a5 q];have:=H.out;have:=C.out;have:=z.out;congr 2;omega))
        rw[ab.out,<-a4.out]at h;exact h
      have aw:Hid (∀f:Option Addr,(0<M.ar (B k).kind->f=some ⟨g,b*6,none⟩)->∀W,Below wr.heap.size wr W->Calls Tryz.prog 113 #[.agg #[.int .i64 (B k).kind,.slice m (B k).sl s,.int .i64 (B k).arg],.slice f (t-b) (cap-b),p1,p2] W (fun e F=>e=.returned (.agg #[.bool v.nul,.int .u64 v.beg.a,.int .u64 v.beg.b,.int .u64 v.beg.c,.int .u64 v.beg.d,.bool v.loop])/\Below W.heap.size W F)):=ao
      clear ao;obtain⟨post,aj,a3⟩:=un1 (l:=l) (a:=(M.ar (B k).kind).toNat) (by have:=O.out;have:=z.out;omega)
      have ap:Hid (∀W,Below wr.heap.size wr W->OwnC (fun b=>w.heap.size<b) W (.slice (some ⟨g,0,none⟩) b cap) 6 b (kK (l.drop (M.ar (B k).kind).toNat))):=fun W I=>udX (uqy E.out aj (by rw[jA];have:=H.out;have:=C.out;have:=z.out;congr 1;omega) a1 (by omega)) (by omega) I
      have aq:Hid ((l.drop (M.ar (B k).kind).toNat).length+1=b):=by show _=_;have:=H.out;have:=C.out;have:=z.out;omega
      clear aj a3;have av:Hid (cap=b->¬0<M.ar (B k).kind):=fun e q=>by have:=z.out;have:=C.out;omega
      go_region_law (first
        | (refine uqx un0 rfl (.tmp 25) (.tmp 26) (.tmp 29) 118 180 rfl (p1:=p1) (p2:=p2) (y1:=.agg #[.int .i64 (B k).kind,.slice m (B k).sl s,.int .i64 (B k).arg]) (y2:=.slice (if cap=b then some ⟨g,0,none⟩ else some ⟨g,b*6,none⟩) (t-b) (cap-b)) (by simp[Act.eval,Act.put]) (by simp[Act.eval,Act.put]) (by simp[Act.eval,Act.put]) ((aw.out (if cap=b then some ⟨g,0,none⟩ else some ⟨g,b*6,none⟩) (fun q=>if_neg (fun e=>av.out e q)) X.drew bX.out.drew).mono ?_)
           rintro e W1 ⟨rfl,U⟩;have Z:Hid (Below wr.heap.size wr W1):=uf bX.out ((Below.refl _ X).drew.trans U);clear U;refine⟨_,rfl,?_⟩)
        | (refine ujp rfl (.tmp 24) (.tmp 31) 180 180 rfl (v:=.slice (some ⟨g,0,none⟩) b cap) (y:=.slice (some ⟨W1.heap.size,0,none⟩) 1 1) (by simp[Act.eval,Act.put]) (by simp[Act.eval,Act.put]) up3 (ap.out (W1.alloc (qt v)) (uf Z.out (ui W1 _))) (up4 (At6.new W1 v)) (by omega) (fun _=>Nat.one_pos) ?_
           intro v' W4 ah af a8;have ax:Hid (OwnC (fun x=>w.heap.size<x\/(W1.alloc (qt v)).heap.size<=x) W4 v' 6 (b+1) (kK (l.drop (M.ar (B k).kind).toNat)++opl v)):=ah
           have au:Hid (Grew (fun x=>w.heap.size<x) (W1.alloc (qt v)) W4):=af
           clear ah af a8))
      all_goals go_goals
      all_goals go_wp2
      all_goals go_roundw
      all_goals first
        |exact ulz L R.out D.out P.out ay.out az.out ab.out aq.out Z.out ax.out au.out
        | (simp[intOf];omega)
    · obtain rfl:k=n:=by omega
      obtain⟨pre,ak,ai⟩:=un3 (M.stk (uT nr mk) B k);have al:OpnC wr g ((M.stk (uT nr mk) B k).length*6) (M.top (M.stk (uT nr mk) B k)):=by
        rcases E.out with⟨q,_⟩|⟨g',a9,q,h2,h3,h4,h5,h6⟩
        · cases q
        · cases q
          have:=ugq (pre:=pre) (post:=[]) h5 (by rw[ak,List.append_nil])
          rw[ai]at this;exact this
      have am:(M.stk (uT nr mk) B k).length<=1048576:=by
        rcases aa.out with q | q
        · subst q;simp[M.stk]
        · have:=M.stk_len (uT nr mk) B k q.2.1
          rw[q.2.2]at this;omega
      clear ak ai P E HV ae;generalize M.stk (uT nr mk) B k=l at *;obtain⟨q,N⟩:∃q,l.length=q:=⟨_,rfl⟩;rw[N]at al am;rw[N];clear N;have x1:((q+1:Nat):Int)-1=(q:Int):=by omega
      obtain⟨t0,t1,t2,t3,t4,t5⟩:=al;obtain⟨r0,r1,r2,r3,r4,r5⟩:=R.out.cells;obtain⟨s0,s1,s2,s3,s4,s5⟩:=R.out.soft;simp only[oz,nz]at r0 r1 r2 r3 r4 r5;generalize M.top l=v at *;have x2:=ur4 q am;go_wp2;refine bodyPost_ret (v:=opv v) (by simp[results,Tryz.f112,go_sem,opv, *]) rfl ?_
      exact⟨rfl,ua5 D.out w.heap.size v (Nat.le_refl _)⟩
namespace M
inductive TX where
 |empty
 |set (n:Nat) (S:Nat->Int)
 |ref (s:ByteArray)
 |thr (s:ByteArray)
 |seq (x y:TX)
 |alt (x y:TX)
 |star (x:TX)
 |not (x:TX)
instance:Inhabited TX:=⟨.empty⟩
def b1(x:UInt8):ByteArray:=⟨#[x]⟩
def uez(v:Int):UInt8:=if v<10 then UInt8.ofNat (48+v.toNat) else UInt8.ofNat (87+v.toNat)
def uM(b:Int):ByteArray :=
 if b=10 then ⟨#[92,110]⟩ else if b=9 then ⟨#[92,116]⟩ else if b=13 then ⟨#[92,114]⟩
 else if b=92\/b=34\/b=91\/b=93\/b=45\/b=94 then ⟨#[92,UInt8.ofNat b.toNat]⟩
 else if 32<=b/\b<=126 then ⟨#[UInt8.ofNat b.toNat]⟩
 else ⟨#[92,120,uez (b / 16),uez (b%16)]⟩
def vM(lo a:Int):ByteArray:=uM lo++(if lo+1<a then b1 45 else ByteArray.empty)++(if lo<a then uM a else ByteArray.empty)
def jf(S:Nat->Int):Nat->ByteArray
 |0=>ByteArray.empty
 |k+1=>jf S k++vM (S (2*k)) (S (2*k+1))
def setT(n:Nat)(S:Nat->Int):ByteArray :=
 if n=2/\S 0=0/\S 1=255 then b1 46 else if n=2/\S 0=S 1 then b1 34++uM (S 0)++b1 34
 else b1 91++jf S (n / 2)++b1 93
def grp(c:Bool)(s:ByteArray):ByteArray:=if c then b1 40++s++b1 41 else s
theorem b1_size x:(b1 x).size=1:=rfl
theorem emp_size:ByteArray.empty.size=0:=rfl
theorem byteT_size b:(uM b).size<=4:=by
 unfold uM;split
 ·simp[ByteArray.size]
 split
 ·simp[ByteArray.size]
 split
 ·simp[ByteArray.size]
 split
 ·simp[ByteArray.size]
 split<;>simp[ByteArray.size]
theorem ujn lo a:(vM lo a).size<=9:=by
 unfold vM;have d:=byteT_size lo;have e:=byteT_size a;rw[ByteArray.size_append,ByteArray.size_append];have b:=b1_size 45;have c:=emp_size;split<;>split<;>omega
theorem midT_size S k:(jf S k).size<=9*k:=by
 induction k with
 |zero=>simp[jf]
 |succ k a =>
  have:=ujn (S (2*k)) (S (2*k+1));rw[jf,ByteArray.size_append];omega
theorem canon_len{n S}(h:Canon n S):n<=256:=by
 obtain⟨l,f⟩:=h;obtain⟨k,rfl⟩:∃k,n=2*k:=⟨n / 2,by omega⟩;have d:=(pairs_canon S k).2 f;have i:∀j,j<k->2*(j:Int)<=S (2*j):=by
  intro j;induction j with
  |zero=>intro e;have:=(d 0 e).1;simp[least]at this;simpa using this
  |succ j g =>
   intro e;have a:=g (by omega);have b:=(d j (by omega)).2.1;have c:=(d (j+1) e).1;unfold least at c;rw[if_neg (by omega),show 2*(j+1)-1=2*j+1 by omega]at c
   push_cast
   omega
 by_cases m:k=0
 ·omega
 have a:=i (k-1) (by omega);have b:=d (k-1) (by omega);have:=b.2.1;have:=b.2.2;omega
theorem setT_size{n S}(h:Canon n S):(setT n S).size<=1200:=by
 have c:=canon_len h;have b:=midT_size S (n / 2);have a:=byteT_size (S 0);unfold setT;split
 ·rw[b1_size];omega
 split
 ·rw[ByteArray.size_append,ByteArray.size_append,b1_size];omega
 rw[ByteArray.size_append,ByteArray.size_append,b1_size,b1_size];omega
theorem grp_size c s:(grp c s).size<=s.size+2:=by
 unfold grp;split
 ·rw[ByteArray.size_append,ByteArray.size_append,b1_size,b1_size];omega
 omega
end M
open M (TX)
def bv (s : ByteArray) : List Value:=s.data.toList.map (fun b=>Value.int .u8 (b.toNat : Int))
open M (uM uez)
def us3:ByteArray:=⟨#[48,49,50,51,52,53,54,55,56,57,97,98,99,100,101,102]⟩
theorem ulB{q:Int}(h:0<=q/\q<=15):q=0\/q=1\/q=2\/q=3\/q=4\/q=5\/q=6\/q=7\/q=8\/q=9\/q=10\/q=11\/q=12\/q=13\/q=14\/q=15:=by omega
theorem us4{b}(h:0<=b/\b<=255):IntKind.u8.wrap b=b:=by
 simp[IntKind.wrap,IntKind.bits,IntKind.signed];omega
open M (vM jf setT b1)
theorem ubK{n S}(h:M.Canon n S){k}(o:2*k+1<n):(0<=S (2*k)/\S (2*k)<=255)/\(0<=S (2*k+1)/\S (2*k+1)<=255):=by
  obtain⟨m,g⟩:=h;obtain⟨q,rfl⟩:∃q,n=2*q:=⟨n / 2,by omega⟩
  have d:=(M.pairs_canon S q).2 g;have l:∀j,j<q->0<=S (2*j):=by
    intro j;induction j with
    |zero=>intro e;have:=(d 0 e).1;simp[M.least]at this;simpa using this
    |succ j i =>
      intro e;have a:=i (by omega)
      have b:=(d j (by omega)).2.1
      have c:=(d (j+1) e).1;unfold M.least at c;rw[if_neg (by omega),show 2*(j+1)-1=2*j+1 by omega]at c
      omega
  have a:=l k (by omega)
  have b:=d k (by omega)
  have b1:=b.2.1;have f:=b.2.2;exact⟨⟨a,by omega⟩,⟨by omega,f⟩⟩
open M (grp)
def vZ(s:ByteArray)(w:World)(e:Ending)(w':World):Prop:=e=.returned (.string s)/\Below w.heap.size w w'
theorem uqn{q}(h:0<=q/\q<=15)w:(Instr.slice 9 (.string us3) (some (.int .i64 q)) (some (.int .i64 (q+1))) none).run Tryz.prog w=.ok (.string (b1 (uez q))) w:=by
 rcases ulB h with h|h|h|h|h|h|h|h|h|h|h|h|h|h|h|h<;>subst h<;>kernel_rfl
theorem uaw q w(h:0<=q/\q<=15):Calls Tryz.prog 155 #[.int .i64 q] w (vZ (b1 (uez q)) w):=by
 have a:=uqn h;unfold us3 at a;have b:=h.1;have c:=h.2;go_enter Tryz.func155,Tryz.ntmps155;go_wp2;go_ret;exact⟨rfl,Below.refl _ _⟩
theorem ud4(w:World)(z:Int)(h:0<=z/\z<=255):(convert 22 9 (.slice (some ⟨w.heap.size,0,none⟩) 1 1)).run Tryz.prog (w.alloc (.cells #[.int .u8 z] 5))=.ok (.string (b1 (UInt8.ofNat z.toNat))) (w.alloc (.cells #[.int .u8 z] 5)):=by
 have a:Ints (λ_=>True) .u8 (w.alloc (.cells #[.int .u8 z] 5)) (some ⟨w.heap.size,0,none⟩) 1 (λ_=>z):=.inr ⟨w.heap.size,0,rfl,trivial,λi b=>by
  obtain rfl:i=0:=by omega
  exact cN w.heap.size rfl rfl⟩
 rw[vo (λ_=>True) _ 1 1 (λ_=>z) _ a];have e:str 1 (λ_=>z)=b1 (UInt8.ofNat z.toNat):=by
  apply ByteArray.ext;apply Array.toList_inj.1;rw[jB];rfl
 rw[e]
theorem uE b w(n:0<=b/\b<=255):Calls Tryz.prog 129 #[.int .i64 b] w (vZ (uM b) w):=by
 have s:=n.1;have f:=n.2;have o:=ua n;have c:=ud4 w b o;have y:=us4 o;by_cases g:b=10
 ·subst g;go_enter Tryz.func129,Tryz.ntmps129;go_wp2;go_ret;exact⟨rfl,Below.refl _ _⟩
 by_cases i:b=9
 ·subst i;go_enter Tryz.func129,Tryz.ntmps129;go_wp2;go_ret;exact⟨rfl,Below.refl _ _⟩
 by_cases h:b=13
 ·subst h;go_enter Tryz.func129,Tryz.ntmps129;go_wp2;go_ret;exact⟨rfl,Below.refl _ _⟩
 have z:(b==10)=false:=by simp[g]
 have B:(b==9)=false:=by simp[i]
 have A:(b==13)=false:=by simp[h]
 by_cases a:b=92\/b=34\/b=91\/b=93\/b=45\/b=94
 ·clear c y;rcases a with rfl|rfl|rfl|rfl|rfl|rfl
  ·have c:(convert 22 9 (.slice (some ⟨w.heap.size,0,none⟩) 1 1)).run Tryz.prog (w.alloc (.cells #[.int .u8 92] 5))=.ok (.string ⟨#[92]⟩) (w.alloc (.cells #[.int .u8 92] 5)):=ud4 w 92 ⟨by omega,by omega⟩;go_enter Tryz.func129,Tryz.ntmps129;go_wp2;go_ret;exact⟨rfl,ui w _⟩
  ·have c:(convert 22 9 (.slice (some ⟨w.heap.size,0,none⟩) 1 1)).run Tryz.prog (w.alloc (.cells #[.int .u8 34] 5))=.ok (.string ⟨#[34]⟩) (w.alloc (.cells #[.int .u8 34] 5)):=ud4 w 34 ⟨by omega,by omega⟩;go_enter Tryz.func129,Tryz.ntmps129;go_wp2;go_ret;exact⟨rfl,ui w _⟩
  ·have c:(convert 22 9 (.slice (some ⟨w.heap.size,0,none⟩) 1 1)).run Tryz.prog (w.alloc (.cells #[.int .u8 91] 5))=.ok (.string ⟨#[91]⟩) (w.alloc (.cells #[.int .u8 91] 5)):=ud4 w 91 ⟨by omega,by omega⟩;go_enter Tryz.func129,Tryz.ntmps129;go_wp2;go_ret;exact⟨rfl,ui w _⟩
  ·have c:(convert 22 9 (.slice (some ⟨w.heap.size,0,none⟩) 1 1)).run Tryz.prog (w.alloc (.cells #[.int .u8 93] 5))=.ok (.string ⟨#[93]⟩) (w.alloc (.cells #[.int .u8 93] 5)):=ud4 w 93 ⟨by omega,by omega⟩;go_enter Tryz.func129,Tryz.ntmps129;go_wp2;go_ret;exact⟨rfl,ui w _⟩
  ·have c:(convert 22 9 (.slice (some ⟨w.heap.size,0,none⟩) 1 1)).run Tryz.prog (w.alloc (.cells #[.int .u8 45] 5))=.ok (.string ⟨#[45]⟩) (w.alloc (.cells #[.int .u8 45] 5)):=ud4 w 45 ⟨by omega,by omega⟩;go_enter Tryz.func129,Tryz.ntmps129;go_wp2;go_ret;exact⟨rfl,ui w _⟩
  have c:(convert 22 9 (.slice (some ⟨w.heap.size,0,none⟩) 1 1)).run Tryz.prog (w.alloc (.cells #[.int .u8 94] 5))=.ok (.string ⟨#[94]⟩) (w.alloc (.cells #[.int .u8 94] 5)):=ud4 w 94 ⟨by omega,by omega⟩;go_enter Tryz.func129,Tryz.ntmps129;go_wp2;go_ret;exact⟨rfl,ui w _⟩
 have N:(b==92)=false:=by simp;exact λq=>a (by omega)
 have I:(b==34)=false:=by simp;exact λq=>a (by omega)
 have L:(b==91)=false:=by simp;exact λq=>a (by omega)
 have O:(b==93)=false:=by simp;exact λq=>a (by omega)
 have J:(b==45)=false:=by simp;exact λq=>a (by omega)
 have P:(b==94)=false:=by simp;exact λq=>a (by omega)
 by_cases d:32<=b/\b<=126
 ·have k:Hid (uM b=b1 (UInt8.ofNat b.toNat)):=by
   unfold uM;rw[if_neg g,if_neg i,if_neg h,if_neg a,if_pos d];rfl
  have C:=d.1;have D:=d.2;rw[<-k.out]at c;generalize uM b=u at *;go_enter Tryz.func129,Tryz.ntmps129;go_wp2;go_ret;exact⟨rfl,ui w _⟩
 have k:Hid (uM b=⟨#[92,120]⟩++b1 (uez (b / 16))++b1 (uez (b%16))):=by
  unfold uM;rw[if_neg g,if_neg i,if_neg h,if_neg a,if_neg d];rfl
 have F:b.tdiv 16=b / 16:=Int.tdiv_eq_ediv_of_nonneg s;have E:b.tmod 16=b%16:=Int.tmod_eq_emod_of_nonneg s;have G:IntKind.i64.wrap (b / 16)=b / 16:=by simp[IntKind.wrap,IntKind.bits,IntKind.signed];omega
 have H:IntKind.i64.wrap (b%16)=b%16:=by simp[IntKind.wrap,IntKind.bits,IntKind.signed];omega
 have p:Hid (0<=b / 16/\b / 16<=15):=⟨by omega,by omega⟩;have r:Hid (0<=b%16/\b%16<=15):=⟨by omega,by omega⟩;generalize b / 16=t at *;generalize b%16=v at *;by_cases x:32<=b
 ·have e8':¬b<=126:=λq=>d ⟨x,q⟩
  go_enter Tryz.func129,Tryz.ntmps129;go_wp2_with (first|(go_at_call 155;refine(uaw t _ p).mono ?_;rintro e W1 ⟨rfl,f⟩;have l:Hid (Below w.heap.size w W1):=f;clear f)|(go_at_call 155;refine(uaw v _ r).mono ?_;rintro e W2 ⟨rfl,j⟩;have m:Hid (Below w.heap.size w W2):=uf l j;clear j));go_ret;exact⟨by rw[k.out];rfl,m⟩
 clear g i h a d;go_enter Tryz.func129,Tryz.ntmps129;go_wp2_with (first|(go_at_call 155;refine(uaw t _ p).mono ?_;rintro e W1 ⟨rfl,f⟩;have l:Hid (Below w.heap.size w W1):=f;clear f)|(go_at_call 155;refine(uaw v _ r).mono ?_;rintro e W2 ⟨rfl,j⟩;have m:Hid (Below w.heap.size w W2):=uf l j;clear j));go_ret;exact⟨by rw[k.out];rfl,m⟩
theorem vq s c w(d:s.size<=16000000):Calls Tryz.prog 84 #[.string s,.bool c] w (vZ (grp c s) w):=by
 have a:¬9223372036854775807<1+s.size:=by omega
 have b:¬9223372036854775807<1+s.size+1:=by omega
 cases c with
 |true =>
  go_enter Tryz.func84,Tryz.ntmps84;go_wp2;go_ret;exact⟨rfl,Below.refl _ _⟩
 |false =>
  go_enter Tryz.func84,Tryz.ntmps84;go_wp2;go_ret;exact⟨rfl,Below.refl _ _⟩
end Go.Proofs.YtimfigongapdnaaGreat
