import Derived.Test.YtpghlcdkfldlpaaGreatT53
set_option linter.unusedVariables false
set_option linter.unusedSimpArgs false
set_option maxHeartbeats 40000000
set_option maxRecDepth 100000
namespace Go.Proofs.YtpghlcdkfldlpaaGreat
open Go.RowKit
open M (OpD ue Gr um)
attribute [local go_sem] udF
theorem um3{most:Int}{s:MSt}(a:s.done=false)(x:um)(il:Nat)(I:Nat->Int):(s.act x il I most).done=true->0<=(s.act x il I most).code:=by
  have d:∀(s:MSt) (c:Int),0<=c->(s.fin c).done=true->0<=(s.fin c).code:=fun s c h _=>h
  have g:∀s:MSt,s.done=false->s.fail.done=true->0<=s.fail.code:=fun s h=>by
    unfold MSt.fail;split
    · exact d _ _ (by decide)
    · intro q;have q':=q;rw[h]at q';cases q'
  have e:∀(s:MSt) f,s.done=false->(s.push f most).done=true->0<=(s.push f most).code:=fun s f h=>by
    unfold MSt.push;split
    · exact d _ _ (by decide)
    · intro q;have q':=q;rw[h]at q';cases q'
  have b:∀t:MSt,t.done=false->t.done=true->0<=t.code:=fun t h q=>by rw[h]at q;cases q
  have k:∀n S,(s.note n S).done=s.done:=fun n S=>ubX _ _ _
  unfold MSt.act;by_cases q:x.kind=0
  · rw[if_pos q]
    unfold MSt.test;split
    · exact b _ a
    · refine g _ ?_
      split
      · exact a
      · rw[k];exact a
  rw[if_neg q];clear q;by_cases q:x.kind=1
  · rw[if_pos q];exact e _ _ a
  rw[if_neg q];clear q;by_cases q:x.kind=4
  · rw[if_pos q];exact e _ _ a
  rw[if_neg q];clear q;by_cases q:x.kind=6
  · rw[if_pos q];exact e _ _ a
  rw[if_neg q];clear q;by_cases q:x.kind=8
  · rw[if_pos q]
    by_cases i:s.inNot=true
    · rw[if_pos i];exact g _ a
    rw[if_neg i];by_cases j:x.to<0
    · rw[if_pos j];exact d _ _ (by decide)
    · rw[if_neg j];exact e _ _ a
  rw[if_neg q];clear q;by_cases q:x.kind=2/\s.top 0=true
  · rw[if_pos q];exact b _ a
  rw[if_neg q];clear q;by_cases q:x.kind=3/\s.top 0=true
  · rw[if_pos q];exact e _ _ a
  rw[if_neg q];clear q;by_cases q:x.kind=5/\s.top 1=true
  · rw[if_pos q];exact g _ a
  rw[if_neg q];clear q;by_cases q:x.kind=7/\s.top 2=true
  · rw[if_pos q];exact b _ a
  rw[if_neg q];clear q;by_cases q:x.kind=9
  · rw[if_pos q];exact b _ a
  rw[if_neg q];clear q;by_cases q:x.kind=10
  · rw[if_pos q];exact b _ a
  rw[if_neg q];clear q;by_cases q:x.kind=11
  · rw[if_pos q];exact b _ a
  rw[if_neg q];clear q;by_cases q:x.kind=12/\s.st.length=0
  · rw[if_pos q];exact d _ _ (by decide)
  rw[if_neg q];clear q;exact d _ _ (by decide)
theorem ujS{most:Int}{s:MSt}(x:um)(il:Nat)(I:Nat->Int)(h:x.kind<0\/13<=x.kind):s.act x il I most=s.fin 4:=by
  unfold MSt.act;have n:∀k:Int,0<=k->k<13->¬x.kind=k:=fun k a b e=>by omega
  simp[n 0 (by decide) (by decide),n 1 (by decide) (by decide),n 2 (by decide) (by decide),n 3 (by decide) (by decide),n 4 (by decide) (by decide),n 5 (by decide) (by decide),n 6 (by decide) (by decide),n 7 (by decide) (by decide),n 8 (by decide) (by decide),n 9 (by decide) (by decide),n 10 (by decide) (by decide),n 11 (by decide) (by decide),n 12 (by decide) (by decide)]
theorem ukZ K L Q p(b j l m:Nat)s x d(g:Nat)c(il ic:Nat)I(most:Int)ka(kc:Nat)la(lc:Nat)(k:Nat)w(h:MacA K L w b s.nx c il ic most ka kc la lc)(i:AP most s)(E:s.throws<=1048576)(a:x.kind=(k:Int))(n:k<13)(z:Ints Q .i64 w d x.sl x.set)(D:x.sl<=1048576)(v:Ints p .u8 w c il I)(u:Byt il I)(A:il<=1048576)(B:¬Q b)(C:∀y,Q y->y<w.heap.size)(q:w.cell? ⟨j,0,none⟩=some (.int .i64 0))(r:w.cell? ⟨l,0,none⟩=some (.int .i64 1))(t:w.cell? ⟨m,0,none⟩=some (.int .i64 2))(o:¬L j/\¬L l/\¬L m) :
    ∃f cap,(uix j l m)[k]? = some (.func (.func f) #[] cap)/\(∀args w,(callFunc f args).run Tryz.prog w=.ok (.enter f args) w)/\Calls Tryz.prog f (#[.pointer (some ⟨b,0,none⟩),kq x d g]++cap) w (ActIs (s.act x il I most) K L b c il ic most w):=by
  match k,n,a with
  |0,_,a=>exact⟨_,#[],rfl,enters_of Tryz.func110 (by kernel_rfl) rfl,um7 K L Q p b s x d g c il ic I most ka kc la lc w h i a z D v u A B C⟩
  |1,_,a=>exact⟨_,#[],rfl,enters_of Tryz.func111 (by kernel_rfl) rfl,uiv K L b s x d g c il ic I most ka kc la lc w h i a⟩
  |2,_,a=>exact⟨_,#[],rfl,enters_of Tryz.func112 (by kernel_rfl) rfl,uiw K L b s x d g c il ic I most ka kc la lc w h i a⟩
  |3,_,a=>exact⟨_,#[],rfl,enters_of Tryz.func113 (by kernel_rfl) rfl,ug6 K L b s x d g c il ic I most ka kc la lc w h i a⟩
  |4,_,a=>exact⟨_,#[],rfl,enters_of Tryz.func114 (by kernel_rfl) rfl,uoQ K L b s x d g c il ic I most ka kc la lc w h i a⟩
  |5,_,a=>exact⟨_,#[],rfl,enters_of Tryz.func115 (by kernel_rfl) rfl,ukP K L b s x d g c il ic I most ka kc la lc w h i a⟩
  |6,_,a =>
    refine⟨_,#[],rfl,enters_of Tryz.func116 (by kernel_rfl) rfl,?_⟩
    have e:s.act x il I most=s.enter x most:=by unfold MSt.act;simp only[a];simp
    rw[e];exact ug5 K L b s x d g c il ic I most ka kc la lc w h i
  |7,_,a=>exact⟨_,#[],rfl,enters_of Tryz.func117 (by kernel_rfl) rfl,uoP K L b s x d g c il ic I most ka kc la lc w h i a⟩
  |8,_,a=>exact⟨_,#[],rfl,enters_of Tryz.func118 (by kernel_rfl) rfl,ukQ K L b s x d g c il ic I most ka kc la lc w h i E a⟩
  |9,_,a =>
    refine⟨_,#[.pointer (some ⟨j,0,none⟩)],rfl,enters_of Tryz.func141 (by kernel_rfl) rfl,?_⟩
    have e:s.act x il I most=s.put 0 x.arg:=by unfold MSt.act;simp only[a];simp
    rw[e];exact qW K L b j 0 s x d g c il ic most ka kc la lc w h i q o.1
  |10,_,a =>
    refine⟨_,#[.pointer (some ⟨l,0,none⟩)],rfl,enters_of Tryz.func141 (by kernel_rfl) rfl,?_⟩
    have e:s.act x il I most=s.put 1 x.arg:=by unfold MSt.act;simp only[a];simp
    rw[e];exact qW K L b l 1 s x d g c il ic most ka kc la lc w h i r o.2.1
  |11,_,a =>
    refine⟨_,#[.pointer (some ⟨m,0,none⟩)],rfl,enters_of Tryz.func141 (by kernel_rfl) rfl,?_⟩
    have e:s.act x il I most=s.put 2 x.arg:=by unfold MSt.act;simp only[a];simp
    rw[e];exact qW K L b m 2 s x d g c il ic most ka kc la lc w h i t o.2.2
  |12,_,a=>exact⟨_,#[],rfl,enters_of Tryz.func120 (by kernel_rfl) rfl,uoO K L b s x d g c il ic I most ka kc la lc w h i a⟩
  |k+13,n,_=>exact absurd n (by omega)
theorem ue7{P:Program}{ops:Array Oper}{o:Oper}{a:Act}{w:World}{K:Act->World->Prop}{d:Exit->Act->World->Prop}{E:Prop}{f:FuncId}{cap:Array Value}(i:∀args w,(callFunc f args).run P w=.ok (.enter f args) w)(k:o.guard=none)(g b c:Operand)(s t:TypeId)
    (m:o.op=.call { callee:=.value g,args:=#[b,c],argTypes:=#[s,t] }) {y1 y2:Value} (j:a.eval g=.func (.func f) #[] cap) (q:a.eval b=y1) (r:a.eval c=y2) (h:Calls P f (#[y1,y2]++cap) w (fun e w'=>∃u,e=.returned u/\K (a.put o.dst u) w')):if Region.wanted o (yielded ops a.tmps)=true then Oper.wp P o a w K d else E:=by
  have p:Region.wanted o (yielded ops a.tmps)=true:=by simp[Region.wanted,k]
  rw[if_pos p];have n:(execOp a.eval o).run P w=.ok (.enter f (#[y1,y2]++cap)) w:=by
    unfold execOp;simp only[m,resolve,invoke,Deferred.ofValue,Sem.run_bind,Sem.run_pure,Result.andThen_ok,List.map_toArray,List.map_cons,List.map_nil,q,r,j];simpa using i (#[y1,y2]++cap) w
  unfold Oper.wp;rw[n];refine Calls.mono h ?_;rintro e w' ⟨u,rfl,l⟩;exact l
def ubz(wr:World)(b:Nat):Nat:=match wr.cell? ⟨b,263,none⟩ with | some (.int _ z)=>z.toNat | _=>0
theorem udI{wr b k}(h:wr.cell? ⟨b,263,none⟩=some (.int .i64 (k:Int))):ubz wr b=k:=by unfold ubz;rw[h];simp
structure RnA(w0:World)(t:MSt)(n:Nat)(R:Nat->um)(il:Nat)(I:Nat->Int)(fuel most:Int)(b:Nat)(ia:Option Addr)(ic:Nat)(s:MSt)(wr:World)(ka:Option Addr)(kc:Nat)(la:Option Addr)(lc:Nat)(K L:Nat->Prop):Prop where
  a:MacA K L wr b s ia il ic most ka kc la lc
  lo:∀x,K x\/L x->w0.heap.size<=x
  kept:Kept (fun x=>x=b) w0 wr
  good:Good most s
  st:(s.steps:Int)<=fuel
  thr:s.throws<=s.steps
  ends:Ends n R il I fuel most s t
  nd:s.done=false
def rnI(w0:World)(t:MSt)(n:Nat)(R:Nat->um)(il:Nat)(I:Nat->Int)(fuel most:Int)(b:Nat)(a:Option Addr)(ic:Nat)(wr:World):Prop :=
  ∃s ka kc la lc,∃K L:Nat->Prop,RnA w0 t n R il I fuel most b a ic s wr ka kc la lc K L
def uoZ(t:MSt)(b:Nat)(a:Option Addr)(il ic:Nat)(most:Int)(w:World)(e:Ending)(w':World):Prop :=
  e=.returned (.int .i64 t.code)/\∃z st ka kc la lc,∃K L:Nat->Prop,MacA K L w' b { t with at_:=z,st:=st } a il ic most ka kc la lc/\(∀x,K x\/L x->w.heap.size<=x)/\Kept (fun x=>x=b) w w'
theorem ufX{w w0 t n R il I fuel most b g ic s wr W ka kc la lc K L}(h:RnA w0 t n R il I fuel most b g ic s wr ka kc la lc K L)(a:Below w.heap.size w w0){T e}(d:s.next n R il I fuel most=T)(j:T.done=true)(m:ActIs T K L b g il ic most wr e W):uoZ t b g il ic most w e W:=by
  have o:t=T:=by
    have i:=h.ends.next h.nd;rw[d]at i;exact i.same j
  subst o;obtain⟨p,z,st,A,B,C,D,k,l,G,u,v,y,c⟩:=m;have E:=a.size;have F:=h.kept.size;refine⟨by rw[p];unfold jP;rw[j];rfl,z,st,A,B,C,D,k,l,u,fun x f=>?_,?_⟩
  · rcases f with q | q
    · rcases v x q with r | r
      · have:=h.lo x (.inl r);omega
      · have:=r.1;omega
    · rcases y x q with r | r
      · have:=h.lo x (.inr r);omega
      · have:=r.1;omega
  · refine⟨c.os.trans (h.kept.os.trans a.os),c.tape.trans (h.kept.tape.trans a.tape),c.output.trans (h.kept.output.trans a.output),by have:=c.size;omega,fun x f d=>?_⟩
    refine (c.block x (by omega) (fun q=>?_)).trans ((h.kept.block x (by omega) d).trans (a.block x f))
    rcases q with q | q | q
    · have:=h.lo x (.inl q);omega
    · have:=h.lo x (.inr q);omega
    · exact d q
theorem ufY{w0 t n R il I fuel most b k ic s wr W ka kc la lc K L}(h:RnA w0 t n R il I fuel most b k ic s wr ka kc la lc K L){T e}(d:s.next n R il I fuel most=T)(i:T.done=false)(u:T.throws<=T.steps)(p:ActIs T K L b k il ic most wr e W) :
    rnI w0 t n R il I fuel most b k ic W/\fuel.toNat-ubz W b<fuel.toNat-ubz wr b:=by
  obtain⟨G,z,st,A,B,C,D,m,o,v,l,w,y,f⟩:=p;obtain⟨rfl,rfl⟩:=v i;have E:=h.kept.size;have g:=ku (n:=n) (R:=R) (il:=il) (I:=I) (most:=most) h.nd h.st;rw[d]at g;have F:T.steps=s.steps+1:=by
    rcases g.2 with⟨q,_⟩ | q
    · rw[i]at q;cases q
    · exact q
  refine⟨⟨T,A,B,C,D,m,o,l,fun x j=>?_,?_,d▸ub5 h.good,g.1,u,d▸h.ends.next h.nd,i⟩,?_⟩
  · rcases j with q | q
    · rcases w x q with r | r
      · exact h.lo x (.inl r)
      · have:=r.1;omega
    · rcases y x q with r | r
      · exact h.lo x (.inr r)
      · have:=r.1;omega
  · refine⟨f.os.trans h.kept.os,f.tape.trans h.kept.tape,f.output.trans h.kept.output,by have:=f.size;omega,fun x j d=>?_⟩
    refine (f.block x (by omega) (fun q=>?_)).trans (h.kept.block x j d)
    rcases q with q | q | q
    · have:=h.lo x (.inl q);omega
    · have:=h.lo x (.inr q);omega
    · exact d q
  · rw[udI l.c.c8,udI h.a.c.c8]
    show fuel.toNat-T.steps<fuel.toNat-s.steps;have:=g.1;omega
theorem um4 Q H b a n c R r il ic I fuel most t w(hA:MacA (fun _=>False) (fun _=>False) w b s0 r il ic most none 0 none 0)(hP:InsA Q w a n R)(hn:n<=1048576)(hI:Ints H .u8 w r il I)(hB:Byt il I)(bh:il<=1048576)(hR:udW n R fuel most)(hE:Ends n R il I fuel most s0 t)(V:¬Q b)(bn:∀y,Q y->y<w.heap.size)(bm:¬H b)(bo:∀y,H y->y<w.heap.size) :
    Calls Tryz.prog 39 #[.pointer (some ⟨b,0,none⟩),.slice a n c,.int .i64 fuel] w (uoZ t b r il ic most w):=by
  have HA:=ua hA;have a7:=ua hP;have HI:=ua hI;have a3:=ua hB;have ai:=ua hR;have a4:=ua hE;have u:Hid ((¬Q b)/\(∀y,Q y->y<w.heap.size)/\(¬H b)/\∀y,H y->y<w.heap.size):=⟨V,bn,bm,bo⟩;have lb:=hA.bl;have bb:=hR.f0;have bu:=hR.f1;go_enter Tryz.func39,Tryz.ntmps39;go_wp2_with fail;refine (ug8 _).mono ?_;rintro e W1 bc;obtain⟨⟨k0,k1,k2,rfl,h0,g,i⟩,aw⟩:=bc;unfold uix fnV umL;go_wp2;generalize hX:W1.alloc _=m;have hX':=hX;have l:Hid (Below w.heap.size w m):=hX'▸ud aw (uf W1 _);have av:Hid (m.heap[W1.heap.size]? = some (.cells (uix k0 k1 k2) 142)):=hX'▸yE W1 _ _ rfl;have a6:Hid (m.cell? ⟨k0,0,none⟩=some (.int .i64 0)/\m.cell? ⟨k1,0,none⟩=some (.int .i64 1)/\m.cell? ⟨k2,0,none⟩=some (.int .i64 2)):=hX'▸⟨uv _ h0,uv _ g,uv _ i⟩;have a9:=ua aw.size;go_loopw [11] (fun _ wr=>rnI m t n R il I fuel most b r ic wr) (fun _ wr=>fuel.toNat-ubz wr b)
  case atStart =>
    refine⟨s0,none,0,none,0,fun _=>False,fun _=>False,HA.later l,fun x J=>(J.elim id id).elim,kE _ _,⟨?_,Nat.le_refl _,fun f hf=>?_,List.Pairwise.nil,fun f hf=>?_⟩,bb,Nat.le_refl _,a4,rfl⟩
    · exact ai.m0
    · simp[s0]at hf
    · simp[s0]at hf
  case round =>
    obtain⟨s,ka,kc,la,lc,K,L,C⟩:=hrel;have d:=ua C;have c2:=C.a.c.c2;have c8:=C.a.c.c8;have f2:=C.a.c.fz 2;have f8:=C.a.c.fz 263;have b7:=C.a.bl;have b3:=C.st;have b0:(s.steps:Int)<=50000:=by omega
    have aq:=ua C.nd;have ag:Hid (∀(D:Int) (W:World),s.next n R il I fuel most=s.fin D->Below wr.heap.size wr W->uoZ t b r il ic most w (.returned (.int .i64 D)) W):=fun D W g i =>
      ufX d l g rfl (vr (t:=s.fin D) (d.a.later i) (Kept.of i) rfl ⟨_,_,rfl⟩)
    by_cases ab:s.at_<0
    · have z:Hid (s.next n R il I fuel most=s.fin 4):=by show _=_;unfold MSt.next;rw[if_pos (.inl ab)]
      go_wp2;go_ret;exact ag 4 _ z (Below.refl _ _)
    · have ha0':¬s.at_<0:=ab
      by_cases ac:(n:Int)<=s.at_
      · have z:Hid (s.next n R il I fuel most=s.fin 4):=by show _=_;unfold MSt.next;rw[if_pos (.inr ac)]
        go_wp2;go_ret;exact ag 4 _ z (Below.refl _ _)
      · have ha1':¬(n:Int)<=s.at_:=ac
        by_cases ae:(s.steps:Int)=fuel
        · have z:Hid (s.next n R il I fuel most=s.fin 3):=by show _=_;unfold MSt.next;rw[if_neg (fun q=>q.elim ab ac),if_pos ae]
          have hfu':((s.steps:Int)==fuel)=true:=by simp[ae]
          go_wp2;go_ret;exact ag 3 _ z (Below.refl _ _)
        · have hfu':((s.steps:Int)==fuel)=false:=by simp[ae]
          obtain⟨q,V⟩:=Int.eq_ofNat_of_zero_le (show 0<=s.at_ by omega)
          have a0:q<n:=by omega
          have z:Hid (s.next n R il I fuel most=MSt.act { s with steps:=s.steps+1 } (R q) il I most):=by
            unfold MSt.next;rw[if_neg (fun q=>q.elim ab ac),if_neg ae,V]
            rfl
          have ak:=(a7.later l).on (fun y p=>d.kept.block y (Nat.lt_of_lt_of_le (u.2.1 y p) l.size) (fun e=>u.1 (e▸p)))
          rcases ak with h0 | ⟨pb,po,rfl,bk,ak⟩
          · omega
          obtain⟨p0,p1,p2,F,G,p3,bp⟩:=ak q a0;have a8:=ua bp;have bx:pb≠b:=fun e=>u.1 (e▸bk)
          have b2:=ai.sets q a0;have lp:=ub p0;generalize R q=x at *;have bz:(q:Int)<(n:Int):=by omega
          have a2:=ua V;rw[V]at c2;have d0:decide ((q:Int)<0)=false:=by simp
          have d1:decide ((n:Int)<=(q:Int))=false:=by simp;omega
          have af:Hid (MacA K L (wr.setCell ⟨b,263,none⟩ (.int .i64 ((s.steps:Int)+1))) b { s with steps:=s.steps+1 } r il ic most ka kc la lc):=by
            have h:=d.a.put (s':={ s with steps:=s.steps+1 }) ((Only.refl _ wr).set b 263 (.int .i64 ((s.steps+1:Nat):Int)) rfl) rfl rfl (d.a.c.set8 (s.steps+1))
            rw[Int.natCast_add,Int.natCast_one]at h;exact h
          have am:Hid (∀o:Obj,s.next n R il I fuel most=MSt.fin { s with steps:=s.steps+1 } 4->uoZ t b r il ic most w (.returned (.int .i64 4)) ((wr.setCell ⟨b,263,none⟩ (.int .i64 ((s.steps:Int)+1))).alloc o)):=fun o h =>
            ufX d l h rfl (vr (t:=MSt.fin { s with steps:=s.steps+1 } 4) (af.later (uf _ _)) (uN (uS (vk (kE _ wr) 263 _) _) (fun y h=>.inr (.inr h))) rfl ⟨_,_,rfl⟩)
          by_cases az:x.kind<0
          · have A:Hid (s.next n R il I fuel most=MSt.fin { s with steps:=s.steps+1 } 4):=by show _=_;rw[z.out,ujS x il I (.inl az)]
            go_wp2;go_ret;exact am _ A
          · have hk0':¬x.kind<0:=az
            by_cases bi:13<=x.kind
            · have A:Hid (s.next n R il I fuel most=MSt.fin { s with steps:=s.steps+1 } 4):=by show _=_;rw[z.out,ujS x il I (.inr bi)]
              go_wp2;go_ret;exact am _ A
            · obtain⟨k,hk⟩:=Int.eq_ofNat_of_zero_le (show 0<=x.kind by omega)
              have bj:k<13:=by omega
              have ap:=ua hk;have a5:=ua bj;rw[hk]at p0;have b6:(k:Int)<13:=by omega
              have e0:decide ((k:Int)<0)=false:=by simp
              have e1:decide (13<=(k:Int))=false:=by simp;omega
              have a1:Hid (MacA K L ((wr.setCell ⟨b,263,none⟩ (.int .i64 ((s.steps:Int)+1))).setCell ⟨b,2,none⟩ (.int .i64 ((q:Int)+1))) b (MSt.nx { s with steps:=s.steps+1 }) r il ic most ka kc la lc):=by
                have h:=af.put (s':=MSt.nx { s with steps:=s.steps+1 }) ((Only.refl _ _).set b 2 (.int .i64 (s.at_+1)) rfl) rfl rfl (af.c.set2 (s.at_+1))
                have e:Value.int .i64 (s.at_+1)=.int .i64 ((q:Int)+1):=by rw[a2.out]
                rw[e]at h;exact h
              have au:Hid (∀y,y≠b->y<wr.heap.size->((wr.setCell ⟨b,263,none⟩ (.int .i64 ((s.steps:Int)+1))).setCell ⟨b,2,none⟩ (.int .i64 ((q:Int)+1))).heap[y]? = wr.heap[y]?):=fun y g i=>(Below.heap_setCell _ _ _ _ g).trans (Below.heap_setCell _ _ _ _ g)
              have O:Hid (Kept (fun y=>K y\/L y\/y=b) wr ((wr.setCell ⟨b,263,none⟩ (.int .i64 ((s.steps:Int)+1))).setCell ⟨b,2,none⟩ (.int .i64 ((q:Int)+1)))):=uN (vk (vk (kE _ wr) 263 _) 2 _) (fun y h=>.inr (.inr h))
              have ba:Hid (((wr.setCell ⟨b,263,none⟩ (.int .i64 ((s.steps:Int)+1))).setCell ⟨b,2,none⟩ (.int .i64 ((q:Int)+1))).heap.size=wr.heap.size):=by show _=_;rw[uh,uh]
              go_wp2;generalize (wr.setCell ⟨b,263,none⟩ (.int .i64 ((s.steps:Int)+1))).setCell ⟨b,2,none⟩ (.int .i64 ((q:Int)+1))=Y at *;have br:Y.heap.size=wr.heap.size:=ba.out;have J:=yE Y (.cells #[.int .i64 (k:Int),.int .i64 x.arg,.int .i64 x.to,.slice F x.sl G] 79) wr.heap.size br.symm;have B:Hid (Below Y.heap.size Y (Y.alloc (.cells #[.int .i64 (k:Int),.int .i64 x.arg,.int .i64 x.to,.slice F x.sl G] 79))):=uf Y _;have b5:wr.heap.size<(Y.alloc (.cells #[.int .i64 (k:Int),.int .i64 x.arg,.int .i64 x.to,.slice F x.sl G] 79)).heap.size:=by rw[World.size_alloc];omega
              generalize Y.alloc (.cells #[.int .i64 (k:Int),.int .i64 x.arg,.int .i64 x.to,.slice F x.sl G] 79)=X at *;have x0:=ui (j:=0) J rfl;have x1:=ui (j:=1) J rfl;have x2:=ui (j:=2) J rfl;have x3:=ui (j:=3) J rfl;have Z:Hid (Kept (fun y=>K y\/L y\/y=b) wr X.drew):=ue5 ⟨B.out.os.trans O.out.os,B.out.tape.trans O.out.tape,B.out.output.trans O.out.output,Nat.le_trans O.out.size B.out.size,fun y g i=>(B.out.block y (by omega)).trans (O.out.block y g i)⟩
              have ah:Hid (∀y,y≠b->y<m.heap.size->X.drew.heap[y]? = m.heap[y]?):=fun y g i=>(B.out.block y (by have:=d.out.kept.size;omega)).trans ((au.out y g (by have:=d.out.kept.size;omega)).trans (d.out.kept.block y i g))
              have bt:=(Array.getElem?_eq_some_iff.1 av).1;have bq:W1.heap.size≠b:=fun e=>by have:=a9.out;have:=HA.out.bl;omega
              have bs:∀y v,m.cell? ⟨y,0,none⟩=some (.int .i64 v)->v<=2->0<=v->y≠b:=fun y v g i h3 e=>by
                subst e;have h4:=uc HA.c.c0 l;rw[g]at h4;cases h4
              have al:∀y v,m.cell? ⟨y,0,none⟩=some (.int .i64 v)->v<=2->0<=v->X.drew.cell? ⟨y,0,none⟩=some (.int .i64 v)/\¬L y:=fun y v g i h3=>⟨(World.cell?_of_block (a:=⟨y,0,none⟩) (ah y (bs y v g i h3) (ub g))).trans g,fun q=>by have h5:=d.lo y (.inr q);have h6:y<m.heap.size:=ub g;omega⟩
              obtain⟨j0,j1,j2⟩:=a6;have g0:=al k0 0 j0 (by decide) (by decide)
              have g1:=al k1 1 j1 (by decide) (by decide)
              have g2:=al k2 2 j2 (by decide) (by decide)
              have bd:AP most { s with steps:=s.steps+1 }:=⟨ai.m1,d.good.len,d.good.last,d.good.kinds,by have:=d.good.logs;show s.log.length<=_;omega,aq⟩
              have b4:=d.thr;obtain⟨f,cap,bg,bf,ad⟩:=ukZ K L Q H b k0 k1 k2 { s with steps:=s.steps+1 } x F G r il ic I most ka kc la lc k X.drew ((a1.later B).later (Below.refl _ X).drew) bd (by show s.throws<=_;omega) ap a5
                (a8.out.on (fun y p=>(B.out.block y (by have:=u.out.2.1 y p;have:=l.out.size;have:=d.out.kept.size;omega)).trans (au.out y (fun e=>u.out.1 (e▸p)) (by have:=u.out.2.1 y p;have:=l.out.size;have:=d.out.kept.size;omega)))) (by omega)
                ((HI.later l).on (fun y p=>ah y (fun e=>u.2.2.1 (e▸p)) (Nat.lt_of_lt_of_le (u.2.2.2 y p) l.size))) a3 bh u.1 (fun y p=>by have:=u.2.1 y p;have:=l.size;have:=d.kept.size;show y<X.heap.size;omega) g0.1 g1.1 g2.1 ⟨g0.2,g1.2,g2.2⟩
              have tc:=ui (j:=k) (t:=142) ((ah W1.heap.size bq bt).trans av) bg;have b8:=ub tc;obtain⟨T,hT⟩:=nm (MSt.act { s with steps:=s.steps+1 } x il I most)
              have A:Hid (s.next n R il I fuel most=T):=by show _=_;rw[z.out,hT]
              have aj:Hid (T.throws<=T.steps):=by
                show _<=_;rw[<-hT,ub6];have g:=udU (most:=most) (s:={ s with steps:=s.steps+1 }) x il I
                have i:({ s with steps:=s.steps+1 }:MSt).throws=s.throws:=rfl
                rw[i]at g;show _<=s.steps+1;omega
              have ax:=um3 (most:=most) (s:={ s with steps:=s.steps+1 }) aq x il I
              rw[hT]at ax ad;unfold kq at ad;rw[ap.out]at ad;have an:=ua ad;have ao:=ua bf;cases S:T.done with
              |true =>
                have P:=ua S;have be:=ax S;obtain⟨D,ay⟩:=nm T.code;have aa:Hid (jP T=D):=by show _=_;unfold jP;rw[S,<-ay];rfl
                rw[ay]at be;have bw:(D != -1)=true:=by simp;omega
                go_region_law (first
                  | (refine ue7 ao rfl (.tmp 63) (.tmp 64) (.tmp 65) 139 79 rfl (f:=f) (cap:=cap) (y1:=.pointer (some ⟨b,0,none⟩)) (y2:=.agg #[.int .i64 (k:Int),.int .i64 x.arg,.int .i64 x.to,.slice F x.sl G]) (by simp[Act.eval]) (by simp[Act.eval]) (by simp[Act.eval]) (an.mono ?_)
                     rintro e W E;obtain⟨U,E⟩:=E;have N:Hid (ActIs T K L b r il ic most X.drew (.returned (.int .i64 (jP T))) W):=⟨rfl,E⟩;rw[aa.out]at U;subst U;refine⟨_,rfl,?_⟩))
                all_goals go_goals
                all_goals go_wp2
                all_goals go_ret
                all_goals
                  have h:=N.from_ Z;rw[aa.out]at h;exact ufX d l A P h
              |false =>
                have P:=ua S;have aa:Hid (jP T = -1):=by show _=_;unfold jP;rw[S];rfl
                go_region_law (first
                  | (refine ue7 ao rfl (.tmp 63) (.tmp 64) (.tmp 65) 139 79 rfl (f:=f) (cap:=cap) (y1:=.pointer (some ⟨b,0,none⟩)) (y2:=.agg #[.int .i64 (k:Int),.int .i64 x.arg,.int .i64 x.to,.slice F x.sl G]) (by simp[Act.eval]) (by simp[Act.eval]) (by simp[Act.eval]) (an.mono ?_)
                     rintro e W E;obtain⟨U,E⟩:=E;have N:Hid (ActIs T K L b r il ic most X.drew (.returned (.int .i64 (jP T))) W):=⟨rfl,E⟩;rw[aa.out]at U;subst U;refine⟨_,rfl,?_⟩))
                all_goals go_goals
                all_goals go_wp2
                all_goals go_roundw
                all_goals first
                  |exact (ufY d A P aj (N.from_ Z)).2
                  |exact (ufY d A P aj (N.from_ Z)).1
                  | ((repeat apply Exists.intro);exact⟨(ufY d A P aj (N.from_ Z)).1,rfl⟩)
theorem um0 M:∀b,(cl M b).length<=2*b
 |0=>Nat.le_refl _
 |b+1=>by
  have:=um0 M b;rw[cl];split
  ·split
   ·rw[List.length_append,List.length_dropLast,List.length_singleton];omega
   rw[List.length_append];simp;omega
  omega
theorem ukX{w0 w1 v l}z y ty(h:OwnL w0 w1 v l)(A:Soft w0 w1)(C:l.length<=4194304) :
  ∃f w',(Builtin.append_ #[34,34] ty #[v,.slice (some ⟨w1.heap.size,0,none⟩) 2 2]).run Tryz.prog (w1.alloc (.cells #[.int .i64 z,.int .i64 y] 3))=.ok f w'/\OwnL w0 w' f (l++[z,y])/\Soft w0 w':=by
 obtain⟨P,s,i,c⟩:=h;have b1:=uf w1 (.cells #[.int .i64 z,.int .i64 y] 3);have x:Src Tryz.prog 1 34 (.slice (some ⟨w1.heap.size,0,none⟩) 2 2) 2 [.int .i64 z,.int .i64 y] (w1.alloc (.cells #[.int .i64 z,.int .i64 y] 3)):=by
  refine Src.ofSlice (P:=Tryz.prog) _ Tryz.underlying34 ⟨w1.heap.size,0,none⟩ 2 2 [.int .i64 z,.int .i64 y] rfl (λj u a=>?_) (λu a=>?_)
  ·match j,a with
   |0,a=>simpa[Addr.add] using (cN w1.heap.size rfl a:(w1.alloc (.cells #[.int .i64 z,.int .i64 y] 3)).cell? ⟨w1.heap.size,0,none⟩=some u)
   |1,a=>simpa[Addr.add] using (cN w1.heap.size rfl a:(w1.alloc (.cells #[.int .i64 z,.int .i64 y] 3)).cell? ⟨w1.heap.size,1,none⟩=some u)
   |j+2,a=>simp at a
  simp at a;rcases a with rfl|rfl<;>rfl
 obtain⟨f,w',w,B,d,F⟩:=yX ty elem34 (s.on (λb c=>b1.block b (i b c).2)) x (by omega) (λ_=>by omega);refine⟨f,w',w,⟨λb=>(P b\/(w1.alloc (.cells #[.int .i64 z,.int .i64 y] 3)).heap.size<=b)/\b<w'.heap.size,?_,?_,?_⟩,(A.trans (uaE w1 _ 3) b1).grew d⟩
 ·have e:vM (l++[z,y])=vM l++[.int .i64 z,.int .i64 y]:=by simp[vM]
  rw[e,List.length_append];show OwnC _ _ _ _ (l.length+2) _;rcases B with q|⟨g,cap,e,t,n,o,p,k⟩
  ·exact .inl q
  refine .inr ⟨g,cap,e,⟨t,?_⟩,n,o,p,k⟩;obtain⟨u,a⟩:=Option.isSome_iff_exists.1 (k 0 (by omega)).1;exact ub a
 ·rintro b ⟨q|q,m⟩
  ·exact⟨(i b q).1,m⟩
  have:=c.size;have:=b1.size;exact⟨by omega,m⟩
 have D:=c.size;have E:=b1.size;exact⟨d.os.trans (b1.os.trans c.os),d.tape.trans (b1.tape.trans c.tape),d.output.trans (b1.output.trans c.output),by have:=d.size;omega,λb r=>(d.block b (by omega) (λq=>by have:=(i b q).1;omega)).trans ((b1.block b (by omega)).trans (c.block b r))⟩
theorem um1{ops:Array Oper}{rest:List Oper}{o:Oper}{a:Act}{f:Exit->Act->World->Prop}(m:o.guard=none)(s x:Operand)(p:o.op=.call { callee:=.builtin .append,args:=#[s,x],argTypes:=#[34,34] })
  {w0 w1:World} {v:Value} {l:List Int} {z y:Int} (r:a.eval s=v) (u:a.eval x=.slice (some ⟨w1.heap.size,0,none⟩) 2 2) (h:OwnL w0 w1 v l) (t:Soft w0 w1) (n:l.length<=4194304)
  (k:∀w' d e b c,Hid (d=l++[z,y])->Hid (e=d.length)->Hid (OwnL w0 w' (.slice b e c) d)->Hid (Soft w0 w')->wpList Tryz.prog ops f rest (a.put o.dst (.slice b e c)) w'):wpList Tryz.prog ops f (o::rest) a (w1.alloc (.cells #[.int .i64 z,.int .i64 y] 3)):=by
 refine wpList_plain m λK i=>?_
 obtain⟨w,w',q,g,j⟩:=ukX z y o.type h t n;obtain⟨b,c,rfl⟩:=g.shape;unfold Oper.wp execOp;simp only[p,resolve,invoke,builtin,Sem.run_bind,Sem.run_pure,Result.andThen_ok,List.map_toArray,List.map_cons,List.map_nil,r,u,q];exact i _ _ (k w' (l++[z,y]) _ b c rfl rfl g j)
theorem ue6{w0 w a c j X x}(h:OwnL w0 w (.slice a (j+1) c) (X++[x]))(v:X.length=j) :
  ∃g,a=some ⟨g,0,none⟩/\w0.heap.size<=g/\g<w.heap.size/\w.cell? ⟨g,j,none⟩=some (.int .i64 x)/\w.frozen? ⟨g,j,none⟩=false/\∀y:Int,OwnL w0 (w.setCell ⟨g,j,none⟩ (.int .i64 y)) (.slice (some ⟨g,0,none⟩) (j+1) c) (X++[y]):=by
 subst v;obtain⟨P,A,f,t⟩:=h;have F:(X++[x]).length=X.length+1:=by simp
 rcases A with⟨_,e,_⟩|⟨g,cap,e,k,D,E,r,s⟩
 ·omega
 injection e with e1 e2 e3;subst e3;have l:vM (X++[x])=vM X++[.int .i64 x]:=by simp[vM]
 have d:(vM X).length=X.length:=by simp[vM]
 have n:w.cell? ⟨g,X.length,none⟩=some (.int .i64 x):=by
  rw[r X.length (by rw[l];simp[d]),l,List.getElem?_append_right (by omega),d];simp
 refine⟨g,e1,(f g k).1,(f g k).2,n,(s X.length (by omega)).2,λy=>⟨P,?_,λb q=>by rw[uh];exact f b q,?_⟩⟩
 ·have m:vM (X++[y])=vM X++[.int .i64 y]:=by simp[vM]
  have z:(X++[y]).length=X.length+1:=by simp
  rw[z];refine .inr ⟨g,c,rfl,k,by rw[m];simp[d],by omega,λi o=>?_,λi o=>?_⟩
  ·rw[m,List.length_append,d,List.length_singleton]at o;by_cases e:i=X.length
   ·subst e;rw[uA n,m,List.getElem?_append_right (by omega),d];simp
   rw[uz (λq=>e q.symm),r i (by rw[l];simp[d];omega),l,m,List.getElem?_append_left (by omega),List.getElem?_append_left (by omega)]
  obtain⟨B,C⟩:=s i o;refine⟨?_,(World.frozen?_setCell _ _ _ _).trans C⟩;by_cases e:i=X.length
  ·subst e;rw[uA n];rfl
  rw[uz (λq=>e q.symm)];exact B
 have u:=(f g k).1;exact t.setCell (p:=⟨g,X.length,none⟩) u _
def uiG(l:List Int)(w:World)(e:Ending)(w':World):Prop:=∃a c,e=.returned (.slice a l.length c)/\OwnL w w' (.slice a l.length c) l/\Soft w w'
def clI(w:World)(M:Nat->Bool)(b a:Value)(wr:World):Prop:=∃k:Nat,k<=256/\a=.int .i64 (k:Int)/\OwnL w wr b (cl M k)/\Soft w wr
theorem ujR:(Tryz.prog.info? 93).map (·.size)=some 256:=by kernel_rfl
theorem um2:(Tryz.prog.info? 4).map (·.size)=some 1:=by kernel_rfl
theorem ukY a(k:Nat)v w(f:k<256)(e:a[k]?=some v):(Instr.index 93 (.agg a) (.int .i64 (k:Int))).run Tryz.prog w=.ok v w:=by
 obtain⟨j,c,d⟩:=Option.map_eq_some_iff.1 um2;have b:(k:Int)<256:=by omega
 simp[Instr.index,asIntOf,run_underlying Tryz.underlying93,run_underlying Tryz.underlying4,Go.part,isAgg,sizeOf,typeInfo,c,d,b,e];intro q;omega
theorem ufW o M w(hs:o.size=256)(hM:∀i,i<256->o[i]?=some (.bool (M i))) :
  Calls Tryz.prog 79 #[.agg o,.bool true] w (uiG (rg M 256) w):=by
 have S:=ua hM;have R:Hid (∀e w',uiG (cl M 256) w e w'->uiG (rg M 256) w e w'):=λe w' h=>by rw[uff];exact h
 go_enter Tryz.func79,Tryz.ntmps79;go_wp2;refine wp_load_mid 93 (.tmp 2) rfl w.heap.size 0 rfl o.toList (.array 256 4) (λj v hv=>?_) Tryz.underlying93 rfl (by rw[Array.length_toList,hs];exact ujR) ?_
 ·rw[Nat.zero_add];exact ui (yE w _ _ rfl) (by simpa using hv)
 rw[Array.toArray_toList];go_wp2;go_loopw [5,9] (λP B wr=>clI w M P B wr) (λP B _=>256-(intOf B).toNat)
 case atStart=>exact⟨0,by omega,rfl,OwnL.nil (uf w _),uaE w _ 93⟩
 case round =>
  obtain⟨k,hk,rfl,a,aa⟩:=hrel;have m:=ua aa;obtain⟨N,O,rfl⟩:=a.shape;have ag:=um0 M k;obtain⟨r,H⟩:=nm ((cl M k).length);rw[H]at a ag ⊢;have c:=ua a;have b:=ua H;by_cases G:k<256
  ·have hlt':(k:Int)<256:=(by omega);have F:=λw=>ukY o k _ w G (S k G)
   have p:cl M (k+1)=(if M k=true then (if k≠0/\M (k-1)=true then (cl M k).dropLast++[(k:Int)] else cl M k++[(k:Int),(k:Int)]) else cl M k):=rfl;cases D:M k with
   |false =>
    rw[D]at p F;have d:Hid (cl M (k+1)=cl M k):=(by show _=_;rw[p];simp);go_wp2;go_roundw
    case rel=>exact⟨k+1,by omega,by go_num,by rw[d.out];exact c,m⟩
    case measure=>simp[intOf];omega
   |true =>
    rw[D]at p F;obtain⟨ae,af⟩:=uf2 M k;by_cases t:k≠0/\M (k-1)=true
    ·have d:Hid (cl M (k+1)=(cl M k).dropLast++[(k:Int)]):=(by show _=_;rw[p,if_pos rfl,if_pos t]);obtain⟨X,E⟩:=nm ((cl M k).dropLast);have f:cl M k=X++[(k:Int)-1]:=by
      rw[<-E];have:=ae t;rw[List.getLast?_eq_some_iff]at this;obtain⟨ys,hy⟩:=this;rw[hy];simp
     obtain⟨j,rfl⟩:∃j,r=j+1:=⟨r-1,by have:=b.out;rw[f,List.length_append,List.length_singleton]at this;omega⟩;have s:X.length=j:=(by have:=b.out;rw[f,List.length_append,List.length_singleton]at this;omega);have a:=c;rw[f]at a;obtain⟨g,rfl,g1,g2,A,Z,I⟩:=ue6 a s;have T:=ua I;have U:Hid (cl M (k+1)=X++[(k:Int)]):=(by show _=_;rw[d.out,E]);have ah:=ua s;have ab:(0:Int)<((j+1:Nat):Int):=(by omega);have Y:((j+1:Nat):Int)-1=(j:Int):=(by omega);have ad:(j:Int)<((j+1:Nat):Int):=(by omega);have ac:j<=512:=(by omega);go_wp2;go_roundw
     case rel=>exact⟨k+1,by omega,by go_num,by rw[U.out];exact T _,m.set _ _⟩
     case measure=>simp[intOf];omega
    have d:Hid (cl M (k+1)=cl M k++[(k:Int),(k:Int)]):=(by show _=_;rw[p,if_pos rfl,if_neg t]);rcases Nat.eq_zero_or_pos r with C|C
    ·subst C;go_wp2_with (at_builtin;refine um1 (l:=cl M k) rfl _ _ rfl rfl rfl c.out m.out (by rw[b.out];omega) ?_;intro W L n V A u Q y z);go_roundw
     case rel=>exact⟨k+1,by omega,by go_num,by rw[d.out];exact u.out▸y.out,z.out⟩
     case measure=>simp[intOf];omega
    obtain⟨j,rfl⟩:∃j,r=j+1:=⟨r-1,by omega⟩;obtain⟨x,J⟩:∃x,(cl M k).getLast? = some x:=by
     cases q:(cl M k).getLast? with
     |none=>rw[List.getLast?_eq_none_iff]at q;have:=b.out;rw[q]at this;simp at this
     |some x=>exact⟨x,rfl⟩
    have aj:=(af x J).2 t;obtain⟨X,f⟩:=List.getLast?_eq_some_iff.1 J;have s:X.length=j:=(by have:=b.out;rw[f,List.length_append,List.length_singleton]at this;omega);have a:=c;rw[f]at a;obtain⟨g,rfl,g1,g2,A,Z,I⟩:=ue6 a s;have ai:(x==(k:Int)-1)=false:=(by simp;omega);have ab:(0:Int)<((j+1:Nat):Int):=(by omega);have Y:((j+1:Nat):Int)-1=(j:Int):=(by omega);have ad:(j:Int)<((j+1:Nat):Int):=(by omega);have ac:j<=512:=(by omega);go_wp2_with (at_builtin;refine um1 (l:=cl M k) rfl _ _ rfl rfl rfl c.out m.out (by rw[b.out];omega) ?_;intro W L n V A u Q y z);go_roundw
    case rel=>exact⟨k+1,by omega,by go_num,by rw[d.out];exact u.out▸y.out,z.out⟩
    case measure=>simp[intOf];omega
  obtain rfl:k=256:=by omega
  go_wp2;go_ret;refine R _ _ ⟨N,O,congrArg (λn=>Ending.returned (.slice N n O)) b.symm,?_,m⟩;rw[b.out];exact c
end Go.Proofs.YtpghlcdkfldlpaaGreat
