import Derived.Test.YtcbnnfnlilbjeaaGreatT33
import Derived.Test.YtcbnnfnlilbjeaaGreatT38
set_option linter.unusedVariables false
set_option linter.unusedSimpArgs false
namespace Go.Proofs.YtcbnnfnlilbjeaaGreat
section
open Go.RowKit
open M (OpD NodeD Gr InsD)
attribute [local go_sem] store_func
theorem act_code{most:Int}{s:MSt}(hd:s.done=false)(x:InsD)(il:Nat)(I:Nat→Int):(s.act x il I most).done=true→0≤(s.act x il I most).code:=by
  have hfin:∀(s:MSt) (c:Int),0≤c→(s.fin c).done=true→0≤(s.fin c).code:=fun s c h _=>h
  have hfail:∀s:MSt,s.done=false→s.fail.done=true→0≤s.fail.code:=fun s h=>by
    unfold MSt.fail;split
    · exact hfin _ _ (by decide)
    · intro q;have q':s.done=true:=q;rw[h]at q';cases q'
  have hpush:∀(s:MSt) f,s.done=false→(s.push f most).done=true→0≤(s.push f most).code:=fun s f h=>by
    unfold MSt.push;split
    · exact hfin _ _ (by decide)
    · intro q;have q':s.done=true:=q;rw[h]at q';cases q'
  have hno:∀t:MSt,t.done=false→t.done=true→0≤t.code:=fun t h q=>by rw[h]at q;cases q
  have hnote:∀n S,(s.note n S).done=s.done:=fun n S=>note_done _ _ _
  unfold MSt.act;by_cases q:x.kind=0
  · rw[if_pos q]
    unfold MSt.test;split
    · exact hno _ hd
    · refine hfail _ ?_
      split
      · exact hd
      · rw[hnote];exact hd
  rw[if_neg q];clear q;by_cases q:x.kind=1
  · rw[if_pos q];exact hpush _ _ hd
  rw[if_neg q];clear q;by_cases q:x.kind=4
  · rw[if_pos q];exact hpush _ _ hd
  rw[if_neg q];clear q;by_cases q:x.kind=6
  · rw[if_pos q];exact hpush _ _ hd
  rw[if_neg q];clear q;by_cases q:x.kind=8
  · rw[if_pos q]
    by_cases q2:s.inNot=true
    · rw[if_pos q2];exact hfail _ hd
    rw[if_neg q2];by_cases q3:x.to<0
    · rw[if_pos q3];exact hfin _ _ (by decide)
    · rw[if_neg q3];exact hpush _ _ hd
  rw[if_neg q];clear q;by_cases q:x.kind=2∧s.top 0=true
  · rw[if_pos q];exact hno _ hd
  rw[if_neg q];clear q;by_cases q:x.kind=3∧s.top 0=true
  · rw[if_pos q];exact hpush _ _ hd
  rw[if_neg q];clear q;by_cases q:x.kind=5∧s.top 1=true
  · rw[if_pos q];exact hfail _ hd
  rw[if_neg q];clear q;by_cases q:x.kind=7∧s.top 2=true
  · rw[if_pos q];exact hno _ hd
  rw[if_neg q];clear q;by_cases q:x.kind=9
  · rw[if_pos q];exact hno _ hd
  rw[if_neg q];clear q;by_cases q:x.kind=10
  · rw[if_pos q];exact hno _ hd
  rw[if_neg q];clear q;by_cases q:x.kind=11
  · rw[if_pos q];exact hno _ hd
  rw[if_neg q];clear q;by_cases q:x.kind=12∧s.st.length=0
  · rw[if_pos q];exact hfin _ _ (by decide)
  rw[if_neg q];clear q;exact hfin _ _ (by decide)
theorem act_bad{most:Int}{s:MSt}(x:InsD)(il:Nat)(I:Nat→Int)(h:x.kind<0∨13≤x.kind):s.act x il I most=s.fin 4:=by
  unfold MSt.act;have n:∀k:Int,0≤k→k<13→¬x.kind=k:=fun k h1 h2 e=>by omega
  simp[n 0 (by decide) (by decide),n 1 (by decide) (by decide),n 2 (by decide) (by decide),n 3 (by decide) (by decide),n 4 (by decide) (by decide),n 5 (by decide) (by decide),n 6 (by decide) (by decide),n 7 (by decide) (by decide),n 8 (by decide) (by decide),n 9 (by decide) (by decide),n 10 (by decide) (by decide),n 11 (by decide) (by decide),n 12 (by decide) (by decide)]
theorem table_any(K L Q Q':Nat→Prop)(b k0 k1 k2:Nat)(s:MSt)(x:InsD)(sa:Option Addr)(sc:Nat)(ia:Option Addr)(il ic:Nat)(I:Nat→Int)(most:Int)(ka:Option Addr)(kc:Nat)(la:Option Addr)(lc:Nat)(k:Nat)(w:World)(hA:MacA K L w b s.nx ia il ic most ka kc la lc)(hp:AP most s)(hthr:s.throws≤1048576)(hx:x.kind=(k:Int))(hk:k<13)
    (hS:Ints Q .i64 w sa x.sl x.set) (hsl:x.sl≤1048576) (hI:Ints Q' .u8 w ia il I) (hB:Byt il I) (hil:il≤1048576) (hq:¬Q b) (hqk:∀y,Q y→y<w.heap.size)
    (h0:w.cell? ⟨k0,0,none⟩=some (.int .i64 0)) (h1:w.cell? ⟨k1,0,none⟩=some (.int .i64 1)) (h2:w.cell? ⟨k2,0,none⟩=some (.int .i64 2)) (hl:¬L k0∧¬L k1∧¬L k2) :
    ∃f cap,(actA k0 k1 k2)[k]? = some (.func (.func f) #[] cap)∧(∀args w,(callFunc f args).run Tryz.prog w=.ok (.enter f args) w)∧Calls Tryz.prog f (#[.pointer (some ⟨b,0,none⟩),insV x sa sc]++cap) w (ActIs (s.act x il I most) K L b ia il ic most w):=by
  match k,hk,hx with
  |0,_,hx=>exact⟨_,#[],rfl,enters_of Tryz.func81 (by kernel_rfl) rfl,test_any K L Q Q' b s x sa sc ia il ic I most ka kc la lc w hA hp hx hS hsl hI hB hil hq hqk⟩
  |1,_,hx=>exact⟨_,#[],rfl,enters_of Tryz.func82 (by kernel_rfl) rfl,choice_any K L b s x sa sc ia il ic I most ka kc la lc w hA hp hx⟩
  |2,_,hx=>exact⟨_,#[],rfl,enters_of Tryz.func83 (by kernel_rfl) rfl,commit_any K L b s x sa sc ia il ic I most ka kc la lc w hA hp hx⟩
  |3,_,hx=>exact⟨_,#[],rfl,enters_of Tryz.func84 (by kernel_rfl) rfl,partial_any K L b s x sa sc ia il ic I most ka kc la lc w hA hp hx⟩
  |4,_,hx=>exact⟨_,#[],rfl,enters_of Tryz.func85 (by kernel_rfl) rfl,not_any K L b s x sa sc ia il ic I most ka kc la lc w hA hp hx⟩
  |5,_,hx=>exact⟨_,#[],rfl,enters_of Tryz.func86 (by kernel_rfl) rfl,twice_any K L b s x sa sc ia il ic I most ka kc la lc w hA hp hx⟩
  |6,_,hx =>
    refine⟨_,#[],rfl,enters_of Tryz.func87 (by kernel_rfl) rfl,?_⟩
    have e:s.act x il I most=s.enter x most:=by unfold MSt.act;simp only[hx];simp
    rw[e];exact call_any K L b s x sa sc ia il ic I most ka kc la lc w hA hp
  |7,_,hx=>exact⟨_,#[],rfl,enters_of Tryz.func88 (by kernel_rfl) rfl,ret_any K L b s x sa sc ia il ic I most ka kc la lc w hA hp hx⟩
  |8,_,hx=>exact⟨_,#[],rfl,enters_of Tryz.func89 (by kernel_rfl) rfl,throw_any K L b s x sa sc ia il ic I most ka kc la lc w hA hp hthr hx⟩
  |9,_,hx =>
    refine⟨_,#[.pointer (some ⟨k0,0,none⟩)],rfl,enters_of Tryz.func110 (by kernel_rfl) rfl,?_⟩
    have e:s.act x il I most=s.put 0 x.arg:=by unfold MSt.act;simp only[hx];simp
    rw[e];exact logging_any K L b k0 0 s x sa sc ia il ic most ka kc la lc w hA hp h0 hl.1
  |10,_,hx =>
    refine⟨_,#[.pointer (some ⟨k1,0,none⟩)],rfl,enters_of Tryz.func110 (by kernel_rfl) rfl,?_⟩
    have e:s.act x il I most=s.put 1 x.arg:=by unfold MSt.act;simp only[hx];simp
    rw[e];exact logging_any K L b k1 1 s x sa sc ia il ic most ka kc la lc w hA hp h1 hl.2.1
  |11,_,hx =>
    refine⟨_,#[.pointer (some ⟨k2,0,none⟩)],rfl,enters_of Tryz.func110 (by kernel_rfl) rfl,?_⟩
    have e:s.act x il I most=s.put 2 x.arg:=by unfold MSt.act;simp only[hx];simp
    rw[e];exact logging_any K L b k2 2 s x sa sc ia il ic most ka kc la lc w hA hp h2 hl.2.2
  |12,_,hx=>exact⟨_,#[],rfl,enters_of Tryz.func91 (by kernel_rfl) rfl,end_any K L b s x sa sc ia il ic I most ka kc la lc w hA hp hx⟩
  |k+13,hk,_=>exact absurd hk (by omega)
theorem stepCallV{P:Program}{ops:Array Oper}{o:Oper}{a:Act}{w:World}{K:Act→World→Prop}{P':Exit→Act→World→Prop}{E:Prop}{f:FuncId}{cap:Array Value}(hf:∀args w,(callFunc f args).run P w=.ok (.enter f args) w)(hgd:o.guard=none)(g x1 x2:Operand)(t1 t2:TypeId)
    (ho:o.op=.call { callee:=.value g,args:=#[x1,x2],argTypes:=#[t1,t2] }) {y1 y2:Value} (hg:a.eval g=.func (.func f) #[] cap) (hx1:a.eval x1=y1) (hx2:a.eval x2=y2) (h:Calls P f (#[y1,y2]++cap) w (fun e w'=>∃u,e=.returned u∧K (a.put o.dst u) w')):if Region.wanted o (yielded ops a.tmps)=true then Oper.wp P o a w K P' else E:=by
  have hw:Region.wanted o (yielded ops a.tmps)=true:=by simp[Region.wanted,hgd]
  rw[if_pos hw];have hrun:(execOp a.eval o).run P w=.ok (.enter f (#[y1,y2]++cap)) w:=by
    unfold execOp;simp only[ho,resolve,invoke,Deferred.ofValue,Sem.run_bind,Sem.run_pure,Result.andThen_ok,List.map_toArray,List.map_cons,List.map_nil,hx1,hx2,hg];simpa using hf (#[y1,y2]++cap) w
  unfold Oper.wp;rw[hrun];refine Calls.mono h ?_;rintro e w' ⟨u,rfl,hk⟩;exact hk
def stepsAt(wr:World)(b:Nat):Nat:=match wr.cell? ⟨b,263,none⟩ with | some (.int _ z)=>z.toNat | _=>0
theorem stepsAt_eq{wr:World}{b k:Nat}(h:wr.cell? ⟨b,263,none⟩=some (.int .i64 (k:Int))):stepsAt wr b=k:=by unfold stepsAt;rw[h];simp
structure RnA(w0:World)(t:MSt)(n:Nat)(R:Nat→InsD)(il:Nat)(I:Nat→Int)(fuel most:Int)(b:Nat)(ia:Option Addr)(ic:Nat)(s:MSt)(wr:World)(ka:Option Addr)(kc:Nat)(la:Option Addr)(lc:Nat)(K L:Nat→Prop):Prop where
  a:MacA K L wr b s ia il ic most ka kc la lc
  lo:∀x,K x∨L x→w0.heap.size≤x
  kept:Kept (fun x=>x=b) w0 wr
  good:Good most s
  st:(s.steps:Int)≤fuel
  thr:s.throws≤s.steps
  ends:Ends n R il I fuel most s t
  nd:s.done=false
def rnI(w0:World)(t:MSt)(n:Nat)(R:Nat→InsD)(il:Nat)(I:Nat→Int)(fuel most:Int)(b:Nat)(ia:Option Addr)(ic:Nat)(wr:World):Prop :=
  ∃s ka kc la lc,∃K L:Nat→Prop,RnA w0 t n R il I fuel most b ia ic s wr ka kc la lc K L
def RnIs(t:MSt)(b:Nat)(ia:Option Addr)(il ic:Nat)(most:Int)(w:World)(e:Ending)(w':World):Prop :=
  e=.returned (.int .i64 t.code)∧∃z st ka kc la lc,∃K L:Nat→Prop,MacA K L w' b { t with at_:=z,st:=st } ia il ic most ka kc la lc∧(∀x,K x∨L x→w.heap.size≤x)∧Kept (fun x=>x=b) w w'
theorem rn_over{w w0:World}{t:MSt}{n:Nat}{R:Nat→InsD}{il:Nat}{I:Nat→Int}{fuel most:Int}{b:Nat}{ia:Option Addr}{ic:Nat}{s:MSt}{wr W:World}{ka:Option Addr}{kc:Nat}{la:Option Addr}{lc:Nat}{K L:Nat→Prop}(h:RnA w0 t n R il I fuel most b ia ic s wr ka kc la lc K L)(hw:Below w.heap.size w w0){T:MSt}{e:Ending}(hn:s.next n R il I fuel most=T)(hT:T.done=true)(hact:ActIs T K L b ia il ic most wr e W):RnIs t b ia il ic most w e W:=by
  have ht:t=T:=by
    have h1:=h.ends.next h.nd;rw[hn]at h1;exact h1.same hT
  subst ht;obtain⟨k1,z,st,ka',kc',la',lc',K',L',k2,k3,k4,k5,k6⟩:=hact;have hs:=hw.size;have hs2:=h.kept.size;refine⟨by rw[k1];unfold rcode;rw[hT];rfl,z,st,ka',kc',la',lc',K',L',k3,fun x hx=>?_,?_⟩
  · rcases hx with q | q
    · rcases k4 x q with r | r
      · have:=h.lo x (.inl r);omega
      · have:=r.1;omega
    · rcases k5 x q with r | r
      · have:=h.lo x (.inr r);omega
      · have:=r.1;omega
  · refine⟨k6.os.trans (h.kept.os.trans hw.os),k6.tape.trans (h.kept.tape.trans hw.tape),k6.output.trans (h.kept.output.trans hw.output),by have:=k6.size;omega,fun x hx hn=>?_⟩
    refine (k6.block x (by omega) (fun q=>?_)).trans ((h.kept.block x (by omega) hn).trans (hw.block x hx))
    rcases q with q | q | q
    · have:=h.lo x (.inl q);omega
    · have:=h.lo x (.inr q);omega
    · exact hn q
theorem rn_next{w0:World}{t:MSt}{n:Nat}{R:Nat→InsD}{il:Nat}{I:Nat→Int}{fuel most:Int}{b:Nat}{ia:Option Addr}{ic:Nat}{s:MSt}{wr W:World}{ka:Option Addr}{kc:Nat}{la:Option Addr}{lc:Nat}{K L:Nat→Prop}(h:RnA w0 t n R il I fuel most b ia ic s wr ka kc la lc K L){T:MSt}{e:Ending}(hn:s.next n R il I fuel most=T)(hT:T.done=false)(hthr:T.throws≤T.steps)(hact:ActIs T K L b ia il ic most wr e W) :
    rnI w0 t n R il I fuel most b ia ic W∧fuel.toNat-stepsAt W b<fuel.toNat-stepsAt wr b:=by
  obtain⟨k1,z,st,ka',kc',la',lc',K',L',k2,k3,k4,k5,k6⟩:=hact;obtain⟨rfl,rfl⟩:=k2 hT;have hs2:=h.kept.size;have hm:=next_measure (n:=n) (R:=R) (il:=il) (I:=I) (most:=most) h.nd h.st;rw[hn]at hm;have hst:T.steps=s.steps+1:=by
    rcases hm.2 with⟨q,_⟩ | q
    · rw[hT]at q;cases q
    · exact q
  refine⟨⟨T,ka',kc',la',lc',K',L',k3,fun x hx=>?_,?_,hn▸next_good h.good,hm.1,hthr,hn▸h.ends.next h.nd,hT⟩,?_⟩
  · rcases hx with q | q
    · rcases k4 x q with r | r
      · exact h.lo x (.inl r)
      · have:=r.1;omega
    · rcases k5 x q with r | r
      · exact h.lo x (.inr r)
      · have:=r.1;omega
  · refine⟨k6.os.trans h.kept.os,k6.tape.trans h.kept.tape,k6.output.trans h.kept.output,by have:=k6.size;omega,fun x hx hn=>?_⟩
    refine (k6.block x (by omega) (fun q=>?_)).trans (h.kept.block x hx hn)
    rcases q with q | q | q
    · have:=h.lo x (.inl q);omega
    · have:=h.lo x (.inr q);omega
    · exact hn q
  · rw[stepsAt_eq k3.c.c8,stepsAt_eq h.a.c.c8]
    show fuel.toNat-T.steps<fuel.toNat-s.steps;have:=hm.1;omega
set_option maxRecDepth 100000 in
set_option maxHeartbeats 16000000 in
theorem mrun_any(Q Q':Nat→Prop)(b:Nat)(a:Option Addr)(n c:Nat)(R:Nat→InsD)(ia:Option Addr)(il ic:Nat)(I:Nat→Int)(fuel most:Int)(t:MSt)(w:World)(hA:MacA (fun _=>False) (fun _=>False) w b s0 ia il ic most none 0 none 0)(hP:InsA Q w a n R)(hn:n≤1048576)(hI:Ints Q' .u8 w ia il I)(hB:Byt il I)(hil:il≤1048576)(hR:RArgs n R fuel most)(hE:Ends n R il I fuel most s0 t)
    (hq:¬Q b) (hqk:∀y,Q y→y<w.heap.size) (hq':¬Q' b) (hqk':∀y,Q' y→y<w.heap.size) :
    Calls Tryz.prog 27 #[.pointer (some ⟨b,0,none⟩),.slice a n c,.int .i64 fuel] w (RnIs t b ia il ic most w):=by
  have HA:Hid (MacA (fun _=>False) (fun _=>False) w b s0 ia il ic most none 0 none 0):=hA
  have HPR:Hid (InsA Q w a n R):=hP;have HI:Hid (Ints Q' .u8 w ia il I):=hI;have HBY:Hid (Byt il I):=hB;have HRA:Hid (RArgs n R fuel most):=hR;have HEN:Hid (Ends n R il I fuel most s0 t):=hE;have HQ:Hid ((¬Q b)∧(∀y,Q y→y<w.heap.size)∧(¬Q' b)∧∀y,Q' y→y<w.heap.size):=⟨hq,hqk,hq',hqk'⟩;have lb:=hA.bl;have fu0:=hR.f0;have fu1:=hR.f1;clear hA hP hI hB hR hE hq hqk hq' hqk';go_enter Tryz.func27,Tryz.ntmps27;go_wp2_with fail;refine (actions_any _).mono ?_;rintro e W1 hac;obtain⟨⟨k0,k1,k2,rfl,h0,h1,h2⟩,hb1⟩:=hac;unfold actA fnV logV;go_wp2;generalize hX:W1.alloc _=X0;have hX':W1.alloc (.cells (actA k0 k1 k2) 98)=X0:=hX;have HX0:Hid (Below w.heap.size w X0):=hX'▸bel_tr hb1 (bel1 W1 _);have HTB:Hid (X0.heap[W1.heap.size]? = some (.cells (actA k0 k1 k2) 98)):=hX'▸blk_new W1 _ _ rfl;have HKS:Hid (X0.cell? ⟨k0,0,none⟩=some (.int .i64 0)∧X0.cell? ⟨k1,0,none⟩=some (.int .i64 1)∧X0.cell? ⟨k2,0,none⟩=some (.int .i64 2)):=hX'▸⟨cellOn _ h0,cellOn _ h1,cellOn _ h2⟩;have HTL:Hid (w.heap.size≤W1.heap.size):=hb1.size;clear hX hX' h0 h1 h2 hb1;go_loopw [11] (fun _ wr=>rnI X0 t n R il I fuel most b ia ic wr) (fun _ wr=>fuel.toNat-stepsAt wr b)
  case atStart =>
    refine⟨s0,none,0,none,0,fun _=>False,fun _=>False,HA.out.later HX0.out,fun x hx=>(hx.elim id id).elim,kept_refl _ _,⟨?_,Nat.le_refl _,fun f hf=>?_,List.Pairwise.nil,fun f hf=>?_⟩,fu0,Nat.le_refl _,HEN.out,rfl⟩
    · exact HRA.out.m0
    · simp[s0]at hf
    · simp[s0]at hf
  case round =>
    obtain⟨s,ka,kc,la,lc,K,L,hr⟩:=hrel;have HR:Hid (RnA X0 t n R il I fuel most b ia ic s wr ka kc la lc K L):=hr;have c2:=hr.a.c.c2;have c8:=hr.a.c.c8;have f2:=hr.a.c.fz 2;have f8:=hr.a.c.fz 263;have lbw:=hr.a.bl;have hst:=hr.st;have hsb:(s.steps:Int)≤50000:=by omega
    have HND:Hid (s.done=false):=hr.nd;have HFIN:Hid (∀(cd:Int) (W:World),s.next n R il I fuel most=s.fin cd→Below wr.heap.size wr W→RnIs t b ia il ic most w (.returned (.int .i64 cd)) W):=fun cd W h1 h2 =>
      rn_over HR.out HX0.out h1 rfl (act_over (t:=s.fin cd) (HR.out.a.later h2) (Kept.of h2) rfl ⟨_,_,rfl⟩)
    clear hr;by_cases ha0:s.at_<0
    · have HNX:Hid (s.next n R il I fuel most=s.fin 4):=by show _=_;unfold MSt.next;rw[if_pos (.inl ha0)]
      go_wp2;go_ret;exact HFIN.out 4 _ HNX.out (Below.refl _ _)
    · have ha0':¬s.at_<0:=ha0
      by_cases ha1:(n:Int)≤s.at_
      · have HNX:Hid (s.next n R il I fuel most=s.fin 4):=by show _=_;unfold MSt.next;rw[if_pos (.inr ha1)]
        go_wp2;go_ret;exact HFIN.out 4 _ HNX.out (Below.refl _ _)
      · have ha1':¬(n:Int)≤s.at_:=ha1
        by_cases hfu:(s.steps:Int)=fuel
        · have HNX:Hid (s.next n R il I fuel most=s.fin 3):=by show _=_;unfold MSt.next;rw[if_neg (fun q=>q.elim ha0 ha1),if_pos hfu]
          have hfu':((s.steps:Int)==fuel)=true:=by simp[hfu]
          clear hfu;go_wp2;go_ret;exact HFIN.out 3 _ HNX.out (Below.refl _ _)
        · have hfu':((s.steps:Int)==fuel)=false:=by simp[hfu]
          obtain⟨q,hq⟩:=Int.eq_ofNat_of_zero_le (show 0≤s.at_ by omega)
          have hqn:q<n:=by omega
          have HNX:Hid (s.next n R il I fuel most=MSt.act { s with steps:=s.steps+1 } (R q) il I most):=by
            show _=_;unfold MSt.next;rw[if_neg (fun q=>q.elim ha0 ha1),if_neg hfu,hq]
            rfl
          have hIns:InsA Q wr a n R:=(HPR.out.later HX0.out).on (fun y hy=>HR.out.kept.block y (Nat.lt_of_lt_of_le (HQ.out.2.1 y hy) HX0.out.size) (fun e=>HQ.out.1 (e▸hy)))
          rcases hIns with h0 | ⟨pb,po,rfl,hpq,hIns⟩
          · omega
          obtain⟨p0,p1,p2,sa,sc,p3,hset⟩:=hIns q hqn;have HSET:Hid (Ints Q .i64 wr sa (R q).sl (R q).set):=hset;have hpb:pb≠b:=fun e=>HQ.out.1 (e▸hpq)
          have hsl:=HRA.out.sets q hqn;have lp:=lt_of_cell p0;generalize R q=x at *;have hqi:(q:Int)<(n:Int):=by omega
          have HAT:Hid (s.at_=(q:Int)):=hq;rw[hq]at c2;clear ha0 ha1 ha0' ha1' hfu hIns hset hq;have d0:decide ((q:Int)<0)=false:=by simp
          have d1:decide ((n:Int)≤(q:Int))=false:=by simp;omega
          have HA1:Hid (MacA K L (wr.setCell ⟨b,263,none⟩ (.int .i64 ((s.steps:Int)+1))) b { s with steps:=s.steps+1 } ia il ic most ka kc la lc):=by
            have h:=HR.out.a.put (s':={ s with steps:=s.steps+1 }) ((Only.refl _ wr).set b 263 (.int .i64 ((s.steps+1:Nat):Int)) rfl) rfl rfl (HR.out.a.c.set8 (s.steps+1))
            rw[Int.natCast_add,Int.natCast_one]at h;exact h
          have HBAD:Hid (∀o:Obj,s.next n R il I fuel most=MSt.fin { s with steps:=s.steps+1 } 4→RnIs t b ia il ic most w (.returned (.int .i64 4)) ((wr.setCell ⟨b,263,none⟩ (.int .i64 ((s.steps:Int)+1))).alloc o)):=fun o h =>
            rn_over HR.out HX0.out h rfl (act_over (t:=MSt.fin { s with steps:=s.steps+1 } 4) (HA1.out.later (bel1 _ _)) (kept_wide (kept_alloc (kept_set (kept_refl _ wr) 263 _) _) (fun y h=>.inr (.inr h))) rfl ⟨_,_,rfl⟩)
          by_cases hk0:x.kind<0
          · have HT:Hid (s.next n R il I fuel most=MSt.fin { s with steps:=s.steps+1 } 4):=by show _=_;rw[HNX.out,act_bad x il I (.inl hk0)]
            go_wp2;go_ret;exact HBAD.out _ HT.out
          · have hk0':¬x.kind<0:=hk0
            by_cases hk1:13≤x.kind
            · have HT:Hid (s.next n R il I fuel most=MSt.fin { s with steps:=s.steps+1 } 4):=by show _=_;rw[HNX.out,act_bad x il I (.inr hk1)]
              go_wp2;go_ret;exact HBAD.out _ HT.out
            · obtain⟨k,hk⟩:=Int.eq_ofNat_of_zero_le (show 0≤x.kind by omega)
              have hk13:k<13:=by omega
              have HKD:Hid (x.kind=(k:Int)):=hk;have HK13:Hid (k<13):=hk13;rw[hk]at p0;have k1i:(k:Int)<13:=by omega
              have e0:decide ((k:Int)<0)=false:=by simp
              have e1:decide (13≤(k:Int))=false:=by simp;omega
              clear hk0 hk0' hk1 hk;have HA2:Hid (MacA K L ((wr.setCell ⟨b,263,none⟩ (.int .i64 ((s.steps:Int)+1))).setCell ⟨b,2,none⟩ (.int .i64 ((q:Int)+1))) b (MSt.nx { s with steps:=s.steps+1 }) ia il ic most ka kc la lc):=by
                have h:=HA1.out.put (s':=MSt.nx { s with steps:=s.steps+1 }) ((Only.refl _ _).set b 2 (.int .i64 (s.at_+1)) rfl) rfl rfl (HA1.out.c.set2 (s.at_+1))
                have e:Value.int .i64 (s.at_+1)=.int .i64 ((q:Int)+1):=by rw[HAT.out]
                rw[e]at h;exact h
              have HON:Hid (∀y,y≠b→y<wr.heap.size→((wr.setCell ⟨b,263,none⟩ (.int .i64 ((s.steps:Int)+1))).setCell ⟨b,2,none⟩ (.int .i64 ((q:Int)+1))).heap[y]? = wr.heap[y]?):=fun y h1 h2=>(Below.heap_setCell _ _ _ _ h1).trans (Below.heap_setCell _ _ _ _ h1)
              have HK2:Hid (Kept (fun y=>K y∨L y∨y=b) wr ((wr.setCell ⟨b,263,none⟩ (.int .i64 ((s.steps:Int)+1))).setCell ⟨b,2,none⟩ (.int .i64 ((q:Int)+1)))):=kept_wide (kept_set (kept_set (kept_refl _ wr) 263 _) 2 _) (fun y h=>.inr (.inr h))
              have HYS:Hid (((wr.setCell ⟨b,263,none⟩ (.int .i64 ((s.steps:Int)+1))).setCell ⟨b,2,none⟩ (.int .i64 ((q:Int)+1))).heap.size=wr.heap.size):=by show _=_;rw[size_set,size_set]
              go_wp2;generalize (wr.setCell ⟨b,263,none⟩ (.int .i64 ((s.steps:Int)+1))).setCell ⟨b,2,none⟩ (.int .i64 ((q:Int)+1))=Y at *;have hys:Y.heap.size=wr.heap.size:=HYS.out;have hx:=blk_new Y (.cells #[.int .i64 (k:Int),.int .i64 x.arg,.int .i64 x.to,.slice sa x.sl sc] 52) wr.heap.size hys.symm;have HXX:Hid (Below Y.heap.size Y (Y.alloc (.cells #[.int .i64 (k:Int),.int .i64 x.arg,.int .i64 x.to,.slice sa x.sl sc] 52))):=bel1 Y _;have hxs:wr.heap.size<(Y.alloc (.cells #[.int .i64 (k:Int),.int .i64 x.arg,.int .i64 x.to,.slice sa x.sl sc] 52)).heap.size:=by rw[World.size_alloc];omega
              generalize Y.alloc (.cells #[.int .i64 (k:Int),.int .i64 x.arg,.int .i64 x.to,.slice sa x.sl sc] 52)=X at *;have x0:=blk_cell (j:=0) hx rfl;have x1:=blk_cell (j:=1) hx rfl;have x2:=blk_cell (j:=2) hx rfl;have x3:=blk_cell (j:=3) hx rfl;have HKX:Hid (Kept (fun y=>K y∨L y∨y=b) wr X.drew):=kept_drew ⟨HXX.out.os.trans HK2.out.os,HXX.out.tape.trans HK2.out.tape,HXX.out.output.trans HK2.out.output,Nat.le_trans HK2.out.size HXX.out.size,fun y h1 h2=>(HXX.out.block y (by omega)).trans (HK2.out.block y h1 h2)⟩
              have HOX:Hid (∀y,y≠b→y<X0.heap.size→X.drew.heap[y]? = X0.heap[y]?):=fun y h1 h2=>(HXX.out.block y (by have:=HR.out.kept.size;omega)).trans ((HON.out y h1 (by have:=HR.out.kept.size;omega)).trans (HR.out.kept.block y h2 h1))
              have lt0:W1.heap.size<X0.heap.size:=(Array.getElem?_eq_some_iff.1 HTB.out).1;have hwb:W1.heap.size≠b:=fun e=>by have:=HTL.out;have:=HA.out.bl;omega
              have kne:∀y v,X0.cell? ⟨y,0,none⟩=some (.int .i64 v)→v≤2→0≤v→y≠b:=fun y v h1 h2 h3 e=>by
                subst e;have h4:=cell_on HA.out.c.c0 HX0.out;rw[h1]at h4;cases h4
              have hcell:∀y v,X0.cell? ⟨y,0,none⟩=some (.int .i64 v)→v≤2→0≤v→X.drew.cell? ⟨y,0,none⟩=some (.int .i64 v)∧¬L y:=fun y v h1 h2 h3=>⟨(World.cell?_of_block (a:=⟨y,0,none⟩) (HOX.out y (kne y v h1 h2 h3) (lt_of_cell h1))).trans h1,fun q=>by have h5:=HR.out.lo y (.inr q);have h6:y<X0.heap.size:=lt_of_cell h1;omega⟩
              obtain⟨j0,j1,j2⟩:=HKS.out;have g0:=hcell k0 0 j0 (by decide) (by decide)
              have g1:=hcell k1 1 j1 (by decide) (by decide)
              have g2:=hcell k2 2 j2 (by decide) (by decide)
              have hap:AP most { s with steps:=s.steps+1 }:=⟨HRA.out.m1,HR.out.good.len,HR.out.good.last,HR.out.good.kinds,by have:=HR.out.good.logs;show s.log.length≤_;omega,HND.out⟩
              have hth:=HR.out.thr;obtain⟨f,cap,hfc,hent,hcall⟩:=table_any K L Q Q' b k0 k1 k2 { s with steps:=s.steps+1 } x sa sc ia il ic I most ka kc la lc k X.drew ((HA2.out.later HXX.out).later (Below.refl _ X).drew) hap (by show s.throws≤_;omega) HKD.out HK13.out
                (HSET.out.on (fun y hy=>(HXX.out.block y (by have:=HQ.out.2.1 y hy;have:=HX0.out.size;have:=HR.out.kept.size;omega)).trans (HON.out y (fun e=>HQ.out.1 (e▸hy)) (by have:=HQ.out.2.1 y hy;have:=HX0.out.size;have:=HR.out.kept.size;omega)))) (by omega)
                ((HI.out.later HX0.out).on (fun y hy=>HOX.out y (fun e=>HQ.out.2.2.1 (e▸hy)) (Nat.lt_of_lt_of_le (HQ.out.2.2.2 y hy) HX0.out.size))) HBY.out hil HQ.out.1 (fun y hy=>by have:=HQ.out.2.1 y hy;have:=HX0.out.size;have:=HR.out.kept.size;show y<X.heap.size;omega) g0.1 g1.1 g2.1 ⟨g0.2,g1.2,g2.2⟩
              have tc:X.cell? ⟨W1.heap.size,k,none⟩=some (.func (.func f) #[] cap):=blk_cell (j:=k) (t:=98) ((HOX.out W1.heap.size hwb lt0).trans HTB.out) hfc;have ltx:W1.heap.size<X.heap.size:=lt_of_cell tc;obtain⟨T,hT⟩:∃T,MSt.act { s with steps:=s.steps+1 } x il I most=T:=⟨_,rfl⟩
              have HT:Hid (s.next n R il I fuel most=T):=by show _=_;rw[HNX.out,hT]
              have HTH:Hid (T.throws≤T.steps):=by
                show _≤_;rw[←hT,act_steps];have h1:=act_throws (most:=most) (s:={ s with steps:=s.steps+1 }) x il I
                have h2:({ s with steps:=s.steps+1 }:MSt).throws=s.throws:=rfl
                rw[h2]at h1;show _≤s.steps+1;omega
              have hcd:=act_code (most:=most) (s:={ s with steps:=s.steps+1 }) HND.out x il I
              rw[hT]at hcd hcall;unfold insV at hcall;rw[HKD.out]at hcall;have HCALL:Hid (Calls Tryz.prog f (#[.pointer (some ⟨b,0,none⟩),.agg #[.int .i64 (k:Int),.int .i64 x.arg,.int .i64 x.to,.slice sa x.sl sc]]++cap) X.drew (ActIs T K L b ia il ic most X.drew)):=hcall;have HENT:Hid (∀args w,(callFunc f args).run Tryz.prog w=.ok (.enter f args) w):=hent;clear hx kne hcell j0 j1 j2 g0 g1 g2 hap hth hfc hent hcall hT hys hwb lt0;cases hTd:T.done with
              |true =>
                have HTD:Hid (T.done=true):=hTd;have hcd0:=hcd hTd;obtain⟨cd,hcd1⟩:∃cd,T.code=cd:=⟨_,rfl⟩;have HRC:Hid (rcode T=cd):=by show _=_;unfold rcode;rw[hTd,←hcd1];rfl
                rw[hcd1]at hcd0;have hne:(cd != -1)=true:=by simp;omega
                clear hcd hTd hcd1;go_region_law (first
                  | (refine stepCallV HENT.out rfl (.tmp 63) (.tmp 64) (.tmp 65) 95 52 rfl (f:=f) (cap:=cap) (y1:=.pointer (some ⟨b,0,none⟩)) (y2:=.agg #[.int .i64 (k:Int),.int .i64 x.arg,.int .i64 x.to,.slice sa x.sl sc]) (by simp[Act.eval,Act.put]) (by simp[Act.eval,Act.put]) (by simp[Act.eval,Act.put]) (HCALL.out.mono ?_)
                     rintro e W hact;obtain⟨he,hact⟩:=hact;have HACT:Hid (ActIs T K L b ia il ic most X.drew (.returned (.int .i64 (rcode T))) W):=⟨rfl,hact⟩;rw[HRC.out]at he;subst he;clear hact;refine⟨_,rfl,?_⟩))
                all_goals go_goals
                all_goals go_wp2
                all_goals go_ret
                all_goals
                  have h:=HACT.out.from_ HKX.out;rw[HRC.out]at h;exact rn_over HR.out HX0.out HT.out HTD.out h
              |false =>
                have HTD:Hid (T.done=false):=hTd;have HRC:Hid (rcode T = -1):=by show _=_;unfold rcode;rw[hTd];rfl
                clear hcd hTd;go_region_law (first
                  | (refine stepCallV HENT.out rfl (.tmp 63) (.tmp 64) (.tmp 65) 95 52 rfl (f:=f) (cap:=cap) (y1:=.pointer (some ⟨b,0,none⟩)) (y2:=.agg #[.int .i64 (k:Int),.int .i64 x.arg,.int .i64 x.to,.slice sa x.sl sc]) (by simp[Act.eval,Act.put]) (by simp[Act.eval,Act.put]) (by simp[Act.eval,Act.put]) (HCALL.out.mono ?_)
                     rintro e W hact;obtain⟨he,hact⟩:=hact;have HACT:Hid (ActIs T K L b ia il ic most X.drew (.returned (.int .i64 (rcode T))) W):=⟨rfl,hact⟩;rw[HRC.out]at he;subst he;clear hact;refine⟨_,rfl,?_⟩))
                all_goals go_goals
                all_goals go_wp2
                all_goals go_roundw
                all_goals first
                  |exact (rn_next HR.out HT.out HTD.out HTH.out (HACT.out.from_ HKX.out)).2
                  |exact (rn_next HR.out HT.out HTD.out HTH.out (HACT.out.from_ HKX.out)).1
                  | ((repeat apply Exists.intro);exact⟨(rn_next HR.out HT.out HTD.out HTH.out (HACT.out.from_ HKX.out)).1,rfl⟩)
end
end Go.Proofs.YtcbnnfnlilbjeaaGreat
