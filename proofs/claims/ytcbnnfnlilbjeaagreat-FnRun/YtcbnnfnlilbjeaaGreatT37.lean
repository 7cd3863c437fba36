import Derived.Test.YtcbnnfnlilbjeaaGreatT36
set_option linter.unusedVariables false
set_option linter.unusedSimpArgs false
namespace Go.Proofs.YtcbnnfnlilbjeaaGreat
section
open Go.RowKit
open M (OpD NodeD Gr InsD)
attribute [local go_sem] asChNil asChCh asChNo asChRe asNoNil asNoCh asNoNo asNoRe asReNil asReCh asReNo asReRe
structure AP(most:Int)(s:MSt):Prop where
 m1:most≤1000
 len:(s.st.length:Int)≤most
 last:∀f,f∈s.st→f.kind≠2→f.log≤s.log.length
 kinds:∀f,f∈s.st→f.kind=0∨f.kind=1∨f.kind=2
 logl:s.log.length≤1048576
 done:s.done=false
theorem AP.len'{most:Int}{s:MSt}(h:AP most s):s.st.length≤1000:=by have:=h.m1;have:=h.len;omega
def insV(x:InsD)(sa:Option Addr)(sc:Nat):Value:=.agg #[.int .i64 x.kind,.int .i64 x.arg,.int .i64 x.to,.slice sa x.sl sc]
def MSt.nx(s:MSt):MSt:={ s with at_:=s.at_+1 }
theorem ActIs.from_{t:MSt}{K L:Nat→Prop}{b:Nat}{ia:Option Addr}{il ic:Nat}{most:Int}{w W w':World}{e:Ending}(hk:Kept (fun x=>K x∨L x∨x=b) w W)(h:ActIs t K L b ia il ic most W e w'):ActIs t K L b ia il ic most w e w':=by
 obtain⟨h1,z,st,ka,kc,la,lc,K',L',h2,h3,h4,h5,h6⟩:=h;have hs:=hk.size;have hn:∀x,New W w' x→New w w' x:=fun x hx=>⟨by have:=hx.1;omega,hx.2⟩
 exact⟨h1,z,st,ka,kc,la,lc,K',L',h2,h3,fun x hx=>(h4 x hx).imp id (hn x),fun x hx=>(h5 x hx).imp id (hn x),kept_trans hk h6⟩
theorem ActIs.below{t:MSt}{K L:Nat→Prop}{b:Nat}{ia:Option Addr}{il ic:Nat}{most:Int}{w W w':World}{e:Ending}(hk:Below w.heap.size w W)(h:ActIs t K L b ia il ic most W e w'):ActIs t K L b ia il ic most w e w':=h.from_ (Kept.of hk)
theorem ActIs.over{t t':MSt}{K L:Nat→Prop}{b:Nat}{ia:Option Addr}{il ic:Nat}{most:Int}{w w':World}{e:Ending}(h:ActIs t K L b ia il ic most w e w')(h1:t.done=true)(h2:∃z st,t'={ t with at_:=z,st:=st }):ActIs t' K L b ia il ic most w e w':=by
 obtain⟨z',st',rfl⟩:=h2;obtain⟨k1,z,st,ka,kc,la,lc,K',L',k2,k3,k4⟩:=h;refine⟨k1,z,st,ka,kc,la,lc,K',L',fun q=>?_,k3,k4⟩
 have q':t.done=false:=q;rw[h1]at q';cases q'
theorem ActIs.fail{s:MSt}{z:Int}{K L:Nat→Prop}{b:Nat}{ia:Option Addr}{il ic:Nat}{most:Int}{w w':World}{e:Ending}(h:ActIs (MSt.fail { s with at_:=z }) K L b ia il ic most w e w'):ActIs s.fail K L b ia il ic most w e w':=by
 cases hu:unwind s.st.reverse with
 |none =>
  have e1:MSt.fail { s with at_:=z }=MSt.fin { s with at_:=z } 1:=by unfold MSt.fail;simp only[hu]
  have e2:s.fail=s.fin 1:=by unfold MSt.fail;rw[hu]
  rw[e1]at h;rw[e2];exact h.over rfl ⟨s.at_,s.st,rfl⟩
 |some p =>
  obtain⟨f,r⟩:=p;have e1:MSt.fail { s with at_:=z }=s.fail:=by unfold MSt.fail;simp only[hu]
  rw[←e1];exact h
theorem ActIs.push{s:MSt}{f:FrD}{z:Int}{K L:Nat→Prop}{b:Nat}{ia:Option Addr}{il ic:Nat}{most:Int}{w w':World}{e:Ending}(h:ActIs (MSt.push s f most) K L b ia il ic most w e w'):ActIs (MSt.push s f most) K L b ia il ic most w e w':=h
theorem act_over{K L:Nat→Prop}{b:Nat}{s:MSt}{ia:Option Addr}{il ic:Nat}{most:Int}{ka:Option Addr}{kc:Nat}{la:Option Addr}{lc:Nat}{w W:World}{t:MSt}(hA:MacA K L W b s ia il ic most ka kc la lc)(hk:Kept (fun x=>K x∨L x∨x=b) w W)(h1:t.done=true)(h2:∃z st,s={ t with at_:=z,st:=st,done:=s.done,code:=s.code }):ActIs t K L b ia il ic most w (.returned (.int .i64 t.code)) W:=by
 obtain⟨z,st,h2⟩:=h2;have e1:s.st=st:=by rw[h2]
 have e2:s.log=t.log:=by rw[h2]
 refine⟨by unfold rcode;rw[h1];rfl,z,st,ka,kc,la,lc,K,L,(fun q=>by rw[h1]at q;cases q),⟨?_,?_,?_,hA.lt,hA.kl,hA.kb,hA.lb⟩,fun x hx=>.inl hx,fun x hx=>.inl hx,hk⟩
 ·show MacC W b _ ia il ic most ka st.length kc la t.log.length lc
  rw[←e1,←e2];exact hA.c.re (by rw[h2]) (by rw[h2]) (by rw[h2]) (by rw[h2]) (by rw[h2]) (by rw[h2]) (by rw[h2])
 ·show OwnC K W (.slice ka st.length kc) 1 st.length (cellsG false st)
  rw[←e1];exact hA.st
 ·show OwnC L W (.slice la t.log.length lc) 3 t.log.length (cellsE t.log)
  rw[←e2];exact hA.log
theorem act_on{K L:Nat→Prop}{b:Nat}{ia:Option Addr}{il ic:Nat}{most:Int}{ka:Option Addr}{kc:Nat}{la:Option Addr}{lc:Nat}{w W:World}{t:MSt}(hA:MacA K L W b t ia il ic most ka kc la lc)(hk:Kept (fun x=>K x∨L x∨x=b) w W)(h1:t.done=false):ActIs t K L b ia il ic most w (.returned (.int .i64 (-1))) W :=
 ⟨by unfold rcode;rw[h1];rfl,t.at_,t.st,ka,kc,la,lc,K,L,fun _=>⟨rfl,rfl⟩,hA,fun x hx=>.inl hx,fun x hx=>.inl hx,hk⟩
theorem kept_wide{P R:Nat→Prop}{w W:World}(h:Kept P w W)(k:∀x,P x→R x):Kept R w W:=⟨h.os,h.tape,h.output,h.size,fun x hx hn=>h.block x hx (fun q=>hn (k x q))⟩
theorem top_cases(s:MSt):(s.st.length=0∧∀k,s.top k=false)∨∃j f,s.st.length=j+1∧s.st[j]? = some f∧(∀k,s.top k=(f.kind==k))∧topTo s.st=f.to:=by
 rcases Nat.eq_zero_or_pos s.st.length with h0 | h0
 ·refine .inl ⟨h0,fun k=>?_⟩
  unfold MSt.top;rw[List.eq_nil_of_length_eq_zero h0];rfl
 ·obtain⟨j,hj⟩:∃j,s.st.length=j+1:=⟨s.st.length-1,by omega⟩
  obtain⟨f,hf,hl⟩:=getLast_at hj;refine .inr ⟨j,f,hj,hf,fun k=>?_,?_⟩
  ·unfold MSt.top;rw[hl]
  ·unfold topTo;rw[hl]
theorem MacA.popped{K L:Nat→Prop}{w:World}{b:Nat}{s:MSt}{ia:Option Addr}{il ic:Nat}{most:Int}{ka:Option Addr}{kc:Nat}{la:Option Addr}{lc j:Nat}(h:MacA K L w b s.nx ia il ic most ka kc la lc)(hj:s.st.length=j+1):MacA K L (w.setCell ⟨b,4,none⟩ (.slice ka j kc)) b s.pop.nx ia il ic most ka kc la lc:=by
 have hl:s.pop.nx.st.length=j:=by show s.st.dropLast.length=j;rw[List.length_dropLast];omega
 have hb:∀x,x≠b→(w.setCell ⟨b,4,none⟩ (.slice ka j kc)).heap[x]? = w.heap[x]?:=fun x hx=>Below.heap_setCell _ _ _ _ hx
 refine⟨?_,?_,?_,fun x hx=>by rw[size_set];exact h.lt x hx,h.kl,h.kb,h.lb⟩
 ·rw[hl]
  exact (h.c.set4 ka j kc).re rfl rfl rfl rfl rfl rfl rfl
 ·rw[hl]
  have e:s.pop.nx.st=s.st.take j:=by show s.st.dropLast=_;rw[List.dropLast_eq_take,hj];rfl
  rw[e,cellsG_take];have k:=own_take h.st (j:=j) (by show j≤s.st.length;omega)
  rw[Nat.mul_one]at k;exact k.on (fun x hx=>hb x (fun e=>h.kb (e▸hx)))
 ·exact h.log.on (fun x hx=>hb x (fun e=>h.lb (e▸hx)))
theorem pop_most{most:Int}{s:MSt}(h:AP most s):(s.pop.st.length:Int)≤most:=by
 have:=h.len;show (s.st.dropLast.length:Int)≤most;rw[List.length_dropLast];omega
theorem ipop_len{most:Int}{s:MSt}(h:AP most s):s.pop.st.length≤1000:=by
 have:=h.len';show s.st.dropLast.length≤1000;rw[List.length_dropLast];omega
theorem pop_last{most:Int}{s:MSt}(h:AP most s):∀f,f∈s.pop.st→f.kind≠2→f.log≤s.pop.log.length:=fun f hf=>h.last f (List.dropLast_subset _ hf)
theorem pop_kinds{most:Int}{s:MSt}(h:AP most s):∀f,f∈s.pop.st→f.kind=0∨f.kind=1∨f.kind=2:=fun f hf=>h.kinds f (List.dropLast_subset _ hf)
theorem pop_not{s:MSt}{j:Nat}{f:FrD}{nn:Bool}(hj:s.st.length=j+1)(hf:s.st[j]? = some f)(hk:(f.kind==1)=false)(hn:s.st.any (fun f=>f.kind==1)=nn):s.pop.st.any (fun f=>f.kind==1)=nn:=by
 have e:s.st=s.st.take j++[f]:=by
  rw[←unwind_take hf,List.take_of_length_le (by omega)]
 have e2:s.pop.st=s.st.take j:=by show s.st.dropLast=_;rw[List.dropLast_eq_take,hj];rfl
 rw[e2,←hn]
 conv=>rhs;rw[e]
 rw[List.any_append];simp[hk]
set_option maxRecDepth 100000 in
set_option maxHeartbeats 4000000 in
theorem end_any(K L:Nat→Prop)(b:Nat)(s:MSt)(x:InsD)(sa:Option Addr)(sc:Nat)(ia:Option Addr)(il ic:Nat)(I:Nat→Int)(most:Int)(ka:Option Addr)(kc:Nat)(la:Option Addr)(lc:Nat)(w:World)(hA:MacA K L w b s.nx ia il ic most ka kc la lc)(hp:AP most s)(hx:x.kind=12) :
  Calls Tryz.prog 91 #[.pointer (some ⟨b,0,none⟩),insV x sa sc] w (ActIs (s.act x il I most) K L b ia il ic most w):=by
 have HA:Hid (MacA K L w b s.nx ia il ic most ka kc la lc):=hA;have c4:w.cell? ⟨b,4,none⟩=some (.slice ka s.st.length kc):=hA.c.c4;have lb:=hA.bl;have hn:=hp.len';have HE:Hid (s.act x il I most=if s.st.length=0 then s.fin 0 else s.fin 4):=by
  show _=_;unfold MSt.act;simp only[hx];simp
 obtain⟨n,hnn⟩:∃n,s.st.length=n:=⟨_,rfl⟩;have HN:Hid (s.st.length=n):=hnn;rw[hnn]at c4 hn;unfold insV;clear hA hx hp hnn;rw[HE.out,HN.out];by_cases h0:n=0
 ·rw[if_pos h0]
  subst h0;go_enter Tryz.func91,Tryz.ntmps91;go_wp2;go_ret;exact act_over (t:=s.fin 0) (HA.out.later (bel1 w _)) (Kept.of (bel1 w _)) rfl ⟨_,_,rfl⟩
 ·rw[if_neg h0]
  have h0':(0:Int)<(n:Int):=by omega
  go_enter Tryz.func91,Tryz.ntmps91;go_wp2;go_ret;exact act_over (t:=s.fin 4) (HA.out.later (bel1 w _)) (Kept.of (bel1 w _)) rfl ⟨_,_,rfl⟩
set_option maxRecDepth 100000 in
set_option maxHeartbeats 8000000 in
theorem choice_any(K L:Nat→Prop)(b:Nat)(s:MSt)(x:InsD)(sa:Option Addr)(sc:Nat)(ia:Option Addr)(il ic:Nat)(I:Nat→Int)(most:Int)(ka:Option Addr)(kc:Nat)(la:Option Addr)(lc:Nat)(w:World)(hA:MacA K L w b s.nx ia il ic most ka kc la lc)(hp:AP most s)(hx:x.kind=1) :
  Calls Tryz.prog 82 #[.pointer (some ⟨b,0,none⟩),insV x sa sc] w (ActIs (s.act x il I most) K L b ia il ic most w):=by
 have HA:Hid (MacA K L w b s.nx ia il ic most ka kc la lc):=hA;have HP:Hid (AP most s):=hp;have HE:Hid (s.act x il I most=(s.nx).push ⟨0,x.to,s.pos,s.log.length⟩ most):=by
  show _=_;unfold MSt.act;simp only[hx];simp[MSt.hold,MSt.nx]
 obtain⟨nn,hnn⟩:∃nn,s.nx.inNot=nn:=⟨_,rfl⟩;have HNN:Hid (s.nx.inNot=nn):=hnn;rw[HE.out];unfold insV;clear hA hx hp hnn;go_enter Tryz.func82,Tryz.ntmps82;go_wp2_with fail;refine (headerTo_any K L b s.nx ia il ic most ka kc la lc x.to _ (HA.out.later (bel1 w _)) HP.out.len').mono ?_;rintro e W ⟨rfl,hb⟩;rw[HNN.out];have HAW:Hid (MacA K L W b s.nx ia il ic most ka kc la lc):=HA.out.later (bel_tr (bel1 w _) hb);have HW:Hid (Below w.heap.size w W):=bel_tr (bel1 w _) hb;clear hb;go_wp2_with fail;refine (here_any b s.pos s.log.length lc la _ HAW.out.c.c3 HAW.out.c.c5).mono ?_;rintro e W2 ⟨rfl,hb⟩;have HAW2:Hid (MacA K L W2 b s.nx ia il ic most ka kc la lc):=HAW.out.later hb;have HW2:Hid (Below w.heap.size w W2):=bel_tr HW.out hb;clear hb;go_wp2_with fail;refine (push_any K L b s.nx ⟨0,x.to,s.pos,s.log.length⟩ _ _ ia il ic most ka kc la lc _ HAW2.out HP.out.len' HP.out.len HP.out.done (by rw[HNN.out];unfold frC;simp)).mono ?_
 rintro e W9 hact;obtain⟨he,hact⟩:=hact;subst he;have HACT:Hid (ActIs (MSt.push s.nx ⟨0,x.to,s.pos,s.log.length⟩ most) K L b ia il ic most _ _ W9):=⟨rfl,hact⟩;clear hact;go_wp2;go_ret;exact HACT.out.below HW2.out
set_option maxRecDepth 100000 in
set_option maxHeartbeats 8000000 in
theorem call_any(K L:Nat→Prop)(b:Nat)(s:MSt)(x:InsD)(sa:Option Addr)(sc:Nat)(ia:Option Addr)(il ic:Nat)(I:Nat→Int)(most:Int)(ka:Option Addr)(kc:Nat)(la:Option Addr)(lc:Nat)(w:World)(hA:MacA K L w b s.nx ia il ic most ka kc la lc)(hp:AP most s) :
  Calls Tryz.prog 87 #[.pointer (some ⟨b,0,none⟩),insV x sa sc] w (ActIs (s.enter x most) K L b ia il ic most w):=by
 have HA:Hid (MacA K L w b s.nx ia il ic most ka kc la lc):=hA;have HP:Hid (AP most s):=hp;have lb:=hA.bl;have c2:w.cell? ⟨b,2,none⟩=some (.int .i64 (s.at_+1)):=hA.c.c2;obtain⟨nn,hnn⟩:∃nn,s.nx.inNot=nn:=⟨_,rfl⟩;have HNN:Hid (s.nx.inNot=nn):=hnn;obtain⟨at1,hat⟩:∃at1,s.at_+1=at1:=⟨_,rfl⟩;have HAT:Hid (s.at_+1=at1):=hat;rw[hat]at c2;unfold insV;clear hA hp hnn hat;go_enter Tryz.func87,Tryz.ntmps87;go_wp2_with fail;refine (headerTo_any K L b s.nx ia il ic most ka kc la lc at1 _ (HA.out.later (bel1 w _)) HP.out.len').mono ?_;rintro e W ⟨rfl,hb⟩;rw[HNN.out];have HAW:Hid (MacA K L W b s.nx ia il ic most ka kc la lc):=HA.out.later (bel_tr (bel1 w _) hb);have HW:Hid (Below w.heap.size w W):=bel_tr (bel1 w _) hb;have x2:=cell_on (a:=⟨w.heap.size,2,none⟩) (v:=.int .i64 x.to) (cN w.heap.size rfl rfl) hb;have lw:w.heap.size<W.heap.size:=lt_of_cell x2;have d2:=HAW.out.c.c2;have f2:=HAW.out.c.fz 2;have lbW:=HAW.out.bl;have hne:b≠w.heap.size:=by omega
 clear hb c2;go_wp2_with fail;have HA3:Hid (MacA K L (W.setCell ⟨b,2,none⟩ (.int .i64 x.to)) b { s with at_:=x.to } ia il ic most ka kc la lc):=HAW.out.put ((Only.refl _ W).set b 2 _ rfl) rfl rfl (HAW.out.c.set2 x.to)
 have HK3:Hid (Kept (fun y=>K y∨L y∨y=b) w (W.setCell ⟨b,2,none⟩ (.int .i64 x.to))):=kept_wide (kept_set (Kept.of HW.out) 2 _) (fun y h=>.inr (.inr h))
 refine (push_any K L b { s with at_:=x.to } ⟨2,s.at_+1,0,0⟩ _ _ ia il ic most ka kc la lc _ (HA3.out.later (bel1 _ _)) HP.out.len' HP.out.len HP.out.done (by rw[HAT.out,show ({ s with at_:=x.to }:MSt).inNot=nn from HNN.out];unfold frC;simp)).mono ?_
 rintro e W9 hact;obtain⟨he,hact⟩:=hact;subst he;have HACT:Hid (ActIs (MSt.push { s with at_:=x.to } ⟨2,s.at_+1,0,0⟩ most) K L b ia il ic most _ _ W9):=⟨rfl,hact⟩
 clear hact;go_wp2;go_ret;exact HACT.out.from_ (kept_alloc HK3.out _)
set_option maxRecDepth 100000 in
set_option maxHeartbeats 8000000 in
theorem commit_any(K L:Nat→Prop)(b:Nat)(s:MSt)(x:InsD)(sa:Option Addr)(sc:Nat)(ia:Option Addr)(il ic:Nat)(I:Nat→Int)(most:Int)(ka:Option Addr)(kc:Nat)(la:Option Addr)(lc:Nat)(w:World)(hA:MacA K L w b s.nx ia il ic most ka kc la lc)(hp:AP most s)(hx:x.kind=2) :
  Calls Tryz.prog 83 #[.pointer (some ⟨b,0,none⟩),insV x sa sc] w (ActIs (s.act x il I most) K L b ia il ic most w):=by
 have HA:Hid (MacA K L w b s.nx ia il ic most ka kc la lc):=hA;have HP:Hid (AP most s):=hp;have lb:=hA.bl;unfold insV;rcases top_cases s with⟨hst,htop⟩|⟨j,f,hj,hf,htop,hto⟩
 ·have HE:Hid (s.act x il I most=s.fin 4):=by
   show _=_;unfold MSt.act;simp only[hx,htop];simp
  have c4:w.cell? ⟨b,4,none⟩=some (.slice ka 0 kc):=by have:=hA.c.c4;rw[show s.nx.st.length=0 from hst]at this;exact this
  rw[HE.out];clear hA hx hp hst htop;go_enter Tryz.func83,Tryz.ntmps83;go_wp2_with fail;refine (take_none b ka kc _ (cellOn _ c4)).mono ?_;rintro e W ⟨rfl,hW⟩;subst W;go_wp2;go_ret;exact act_over (t:=s.fin 4) (HA.out.later (bel2 w _ _)) (Kept.of (bel2 w _ _)) rfl ⟨_,_,rfl⟩
 ·obtain⟨g,rfl,hg,hkc,cg⟩:=top_cell (l:=s.st) hA.st hj hf
  have c4:w.cell? ⟨b,4,none⟩=some (.slice (some ⟨g,0,none⟩) (j+1) kc):=by have:=hA.c.c4;rw[show s.nx.st.length=j+1 from hj]at this;exact this
  have f4:=hA.c.fz 4;have hkd:=HP.out.kinds f (List.mem_of_getElem? hf);have hj1:j≤1000:=by have:=HP.out.len';omega
  have hjk:j+1≤kc:=by omega
  have HJ:Hid (s.st.length=j+1):=hj;have HFJ:Hid (s.st[j]? = some f):=hf;have HTO:Hid (topTo s.st=f.to):=hto;obtain⟨nn,hnn⟩:∃nn,s.st.any (fun f=>f.kind==1)=nn:=⟨_,rfl⟩
  have HNN:Hid (s.st.any (fun f=>f.kind==1)=nn):=hnn
  rw[hnn]at cg;unfold frC at cg;have HPOP:Hid (∀W,Below w.heap.size w W→MacA K L (W.setCell ⟨b,4,none⟩ (.slice (some ⟨g,0,none⟩) j kc)) b s.pop.nx ia il ic most (some ⟨g,0,none⟩) kc la lc∧Kept (fun y=>y=b) w (W.setCell ⟨b,4,none⟩ (.slice (some ⟨g,0,none⟩) j kc))):=fun W hW=>⟨(HA.out.later hW).popped HJ.out,kept_set (Kept.of hW) 4 _⟩
  clear hA hp hnn hf hto hkc hj
  rcases hkd with hkd | hkd | hkd
  ·rw[if_pos hkd]at cg
   have HE:Hid (s.act x il I most={ s.pop with at_:=x.to }):=by
    show _=_;unfold MSt.act;simp only[hx,htop,hkd];simp
   have HKD:Hid (f.kind=0):=hkd;rw[HE.out];clear hx htop hkd;go_enter Tryz.func83,Tryz.ntmps83;go_wp2_with fail;refine (take_some b g j kc _ _ (cellOn _ c4) (frozenOn _ c4 f4) (cellOn _ cg) hj1 hjk).mono ?_;rintro e W ⟨rfl,hW⟩;subst W;obtain⟨HV,HKV⟩:=HPOP.out _ (bel1 w (.cells #[.int .i64 x.kind,.int .i64 x.arg,.int .i64 x.to,.slice sa x.sl sc] 52));have hbx2:((w.alloc (.cells #[.int .i64 x.kind,.int .i64 x.arg,.int .i64 x.to,.slice sa x.sl sc] 52)).setCell ⟨b,4,none⟩ (.slice (some ⟨g,0,none⟩) j kc)).cell? ⟨w.heap.size,2,none⟩=some (.int .i64 x.to):=cell_setB (by omega) (cN w.heap.size rfl rfl)
   generalize (w.alloc (.cells #[.int .i64 x.kind,.int .i64 x.arg,.int .i64 x.to,.slice sa x.sl sc] 52)).setCell ⟨b,4,none⟩ (.slice (some ⟨g,0,none⟩) j kc)=V at *;have HV':Hid (MacA K L V b s.pop.nx ia il ic most (some ⟨g,0,none⟩) kc la lc):=HV;have HKV':Hid (Kept (fun y=>y=b) w V):=HKV
   have lbV:=HV.bl;have lwV:w.heap.size<V.heap.size:=lt_of_cell hbx2;have hne:b≠w.heap.size:=by omega
   have d2:=HV.c.c2;have g2:=HV.c.fz 2;clear HV HKV c4 f4 cg;go_wp2;go_ret;have h3:MacA K L (V.setCell ⟨b,2,none⟩ (.int .i64 x.to)) b { s.pop with at_:=x.to } ia il ic most (some ⟨g,0,none⟩) kc la lc:=HV'.out.put ((Only.refl _ V).set b 2 _ rfl) rfl rfl (HV'.out.c.set2 x.to)
   exact act_on (h3.later (bel1 _ _)) (kept_wide (kept_alloc (kept_set HKV'.out 2 _) _) (fun y h=>.inr (.inr h))) HP.out.done
  ·rw[if_neg (by rw[hkd];decide),if_pos hkd]at cg
   have HE:Hid (s.act x il I most=s.fin 4):=by
    show _=_;unfold MSt.act;simp only[hx,htop,hkd];simp
   have HKD:Hid (f.kind=1):=hkd;rw[HE.out];clear hx htop hkd;go_enter Tryz.func83,Tryz.ntmps83;go_wp2_with fail;refine (take_some b g j kc _ _ (cellOn _ c4) (frozenOn _ c4 f4) (cellOn _ cg) hj1 hjk).mono ?_;rintro e W ⟨rfl,hW⟩;subst W;obtain⟨HV,HKV⟩:=HPOP.out _ (bel1 w (.cells #[.int .i64 x.kind,.int .i64 x.arg,.int .i64 x.to,.slice sa x.sl sc] 52));have hbx2:((w.alloc (.cells #[.int .i64 x.kind,.int .i64 x.arg,.int .i64 x.to,.slice sa x.sl sc] 52)).setCell ⟨b,4,none⟩ (.slice (some ⟨g,0,none⟩) j kc)).cell? ⟨w.heap.size,2,none⟩=some (.int .i64 x.to):=cell_setB (by omega) (cN w.heap.size rfl rfl)
   generalize (w.alloc (.cells #[.int .i64 x.kind,.int .i64 x.arg,.int .i64 x.to,.slice sa x.sl sc] 52)).setCell ⟨b,4,none⟩ (.slice (some ⟨g,0,none⟩) j kc)=V at *;have HV':Hid (MacA K L V b s.pop.nx ia il ic most (some ⟨g,0,none⟩) kc la lc):=HV;have HKV':Hid (Kept (fun y=>y=b) w V):=HKV
   have lbV:=HV.bl;have lwV:w.heap.size<V.heap.size:=lt_of_cell hbx2;have hne:b≠w.heap.size:=by omega
   have d2:=HV.c.c2;have g2:=HV.c.fz 2;clear HV HKV c4 f4 cg;go_wp2;go_ret;exact act_over (t:=s.fin 4) (HV'.out.later (bel1 _ _)) (kept_wide (kept_alloc HKV'.out _) (fun y h=>.inr (.inr h))) rfl ⟨_,_,rfl⟩
  ·rw[if_neg (by rw[hkd];decide),if_neg (by rw[hkd];decide)]at cg
   have HE:Hid (s.act x il I most=s.fin 4):=by
    show _=_;unfold MSt.act;simp only[hx,htop,hkd];simp
   have HKD:Hid (f.kind=2):=hkd;rw[HE.out];clear hx htop hkd;go_enter Tryz.func83,Tryz.ntmps83;go_wp2_with fail;refine (take_some b g j kc _ _ (cellOn _ c4) (frozenOn _ c4 f4) (cellOn _ cg) hj1 hjk).mono ?_;rintro e W ⟨rfl,hW⟩;subst W;obtain⟨HV,HKV⟩:=HPOP.out _ (bel1 w (.cells #[.int .i64 x.kind,.int .i64 x.arg,.int .i64 x.to,.slice sa x.sl sc] 52));have hbx2:((w.alloc (.cells #[.int .i64 x.kind,.int .i64 x.arg,.int .i64 x.to,.slice sa x.sl sc] 52)).setCell ⟨b,4,none⟩ (.slice (some ⟨g,0,none⟩) j kc)).cell? ⟨w.heap.size,2,none⟩=some (.int .i64 x.to):=cell_setB (by omega) (cN w.heap.size rfl rfl)
   generalize (w.alloc (.cells #[.int .i64 x.kind,.int .i64 x.arg,.int .i64 x.to,.slice sa x.sl sc] 52)).setCell ⟨b,4,none⟩ (.slice (some ⟨g,0,none⟩) j kc)=V at *;have HV':Hid (MacA K L V b s.pop.nx ia il ic most (some ⟨g,0,none⟩) kc la lc):=HV;have HKV':Hid (Kept (fun y=>y=b) w V):=HKV
   have lbV:=HV.bl;have lwV:w.heap.size<V.heap.size:=lt_of_cell hbx2;have hne:b≠w.heap.size:=by omega
   have d2:=HV.c.c2;have g2:=HV.c.fz 2;clear HV HKV c4 f4 cg;go_wp2;go_ret;exact act_over (t:=s.fin 4) (HV'.out.later (bel1 _ _)) (kept_wide (kept_alloc HKV'.out _) (fun y h=>.inr (.inr h))) rfl ⟨_,_,rfl⟩
set_option maxRecDepth 100000 in
set_option maxHeartbeats 8000000 in
theorem ret_any(K L:Nat→Prop)(b:Nat)(s:MSt)(x:InsD)(sa:Option Addr)(sc:Nat)(ia:Option Addr)(il ic:Nat)(I:Nat→Int)(most:Int)(ka:Option Addr)(kc:Nat)(la:Option Addr)(lc:Nat)(w:World)(hA:MacA K L w b s.nx ia il ic most ka kc la lc)(hp:AP most s)(hx:x.kind=7) :
  Calls Tryz.prog 88 #[.pointer (some ⟨b,0,none⟩),insV x sa sc] w (ActIs (s.act x il I most) K L b ia il ic most w):=by
 have HA:Hid (MacA K L w b s.nx ia il ic most ka kc la lc):=hA;have HP:Hid (AP most s):=hp;have lb:=hA.bl;unfold insV;rcases top_cases s with⟨hst,htop⟩|⟨j,f,hj,hf,htop,hto⟩
 ·have HE:Hid (s.act x il I most=s.fin 4):=by
   show _=_;unfold MSt.act;simp only[hx,htop];simp
  have c4:w.cell? ⟨b,4,none⟩=some (.slice ka 0 kc):=by have:=hA.c.c4;rw[show s.nx.st.length=0 from hst]at this;exact this
  rw[HE.out];clear hA hx hp hst htop;go_enter Tryz.func88,Tryz.ntmps88;go_wp2_with fail;refine (take_none b ka kc _ (cellOn _ c4)).mono ?_;rintro e W ⟨rfl,hW⟩;subst W;go_wp2;go_ret;exact act_over (t:=s.fin 4) (HA.out.later (bel2 w _ _)) (Kept.of (bel2 w _ _)) rfl ⟨_,_,rfl⟩
 ·obtain⟨g,rfl,hg,hkc,cg⟩:=top_cell (l:=s.st) hA.st hj hf
  have c4:w.cell? ⟨b,4,none⟩=some (.slice (some ⟨g,0,none⟩) (j+1) kc):=by have:=hA.c.c4;rw[show s.nx.st.length=j+1 from hj]at this;exact this
  have f4:=hA.c.fz 4;have hkd:=HP.out.kinds f (List.mem_of_getElem? hf);have hj1:j≤1000:=by have:=HP.out.len';omega
  have hjk:j+1≤kc:=by omega
  have HJ:Hid (s.st.length=j+1):=hj;have HFJ:Hid (s.st[j]? = some f):=hf;have HTO:Hid (topTo s.st=f.to):=hto;obtain⟨nn,hnn⟩:∃nn,s.st.any (fun f=>f.kind==1)=nn:=⟨_,rfl⟩
  have HNN:Hid (s.st.any (fun f=>f.kind==1)=nn):=hnn
  rw[hnn]at cg;unfold frC at cg;have HPOP:Hid (∀W,Below w.heap.size w W→MacA K L (W.setCell ⟨b,4,none⟩ (.slice (some ⟨g,0,none⟩) j kc)) b s.pop.nx ia il ic most (some ⟨g,0,none⟩) kc la lc∧Kept (fun y=>y=b) w (W.setCell ⟨b,4,none⟩ (.slice (some ⟨g,0,none⟩) j kc))):=fun W hW=>⟨(HA.out.later hW).popped HJ.out,kept_set (Kept.of hW) 4 _⟩
  have hto':=hto;clear hA hp hnn hf hto hkc hj
  rcases hkd with hkd | hkd | hkd
  ·rw[if_pos hkd]at cg
   have HE:Hid (s.act x il I most=s.fin 4):=by
    show _=_;unfold MSt.act;simp only[hx,htop,hkd,hto'];simp
   have HKD:Hid (f.kind=0):=hkd;rw[HE.out];clear hx htop hkd hto';go_enter Tryz.func88,Tryz.ntmps88;go_wp2_with fail;refine (take_some b g j kc _ _ (cellOn _ c4) (frozenOn _ c4 f4) (cellOn _ cg) hj1 hjk).mono ?_;rintro e W ⟨rfl,hW⟩;subst W;obtain⟨HV,HKV⟩:=HPOP.out _ (bel1 w (.cells #[.int .i64 x.kind,.int .i64 x.arg,.int .i64 x.to,.slice sa x.sl sc] 52));have hbx2:((w.alloc (.cells #[.int .i64 x.kind,.int .i64 x.arg,.int .i64 x.to,.slice sa x.sl sc] 52)).setCell ⟨b,4,none⟩ (.slice (some ⟨g,0,none⟩) j kc)).cell? ⟨w.heap.size,2,none⟩=some (.int .i64 x.to):=cell_setB (by omega) (cN w.heap.size rfl rfl)
   generalize (w.alloc (.cells #[.int .i64 x.kind,.int .i64 x.arg,.int .i64 x.to,.slice sa x.sl sc] 52)).setCell ⟨b,4,none⟩ (.slice (some ⟨g,0,none⟩) j kc)=V at *;have HV':Hid (MacA K L V b s.pop.nx ia il ic most (some ⟨g,0,none⟩) kc la lc):=HV;have HKV':Hid (Kept (fun y=>y=b) w V):=HKV
   have lbV:=HV.bl;have lwV:w.heap.size<V.heap.size:=lt_of_cell hbx2;have hne:b≠w.heap.size:=by omega
   have d2:=HV.c.c2;have g2:=HV.c.fz 2;clear HV HKV c4 f4 cg;go_wp2;go_ret;exact act_over (t:=s.fin 4) (HV'.out.later (bel1 _ _)) (kept_wide (kept_alloc HKV'.out _) (fun y h=>.inr (.inr h))) rfl ⟨_,_,rfl⟩
  ·rw[if_neg (by rw[hkd];decide),if_pos hkd]at cg
   have HE:Hid (s.act x il I most=s.fin 4):=by
    show _=_;unfold MSt.act;simp only[hx,htop,hkd,hto'];simp
   have HKD:Hid (f.kind=1):=hkd;rw[HE.out];clear hx htop hkd hto';go_enter Tryz.func88,Tryz.ntmps88;go_wp2_with fail;refine (take_some b g j kc _ _ (cellOn _ c4) (frozenOn _ c4 f4) (cellOn _ cg) hj1 hjk).mono ?_;rintro e W ⟨rfl,hW⟩;subst W;obtain⟨HV,HKV⟩:=HPOP.out _ (bel1 w (.cells #[.int .i64 x.kind,.int .i64 x.arg,.int .i64 x.to,.slice sa x.sl sc] 52));have hbx2:((w.alloc (.cells #[.int .i64 x.kind,.int .i64 x.arg,.int .i64 x.to,.slice sa x.sl sc] 52)).setCell ⟨b,4,none⟩ (.slice (some ⟨g,0,none⟩) j kc)).cell? ⟨w.heap.size,2,none⟩=some (.int .i64 x.to):=cell_setB (by omega) (cN w.heap.size rfl rfl)
   generalize (w.alloc (.cells #[.int .i64 x.kind,.int .i64 x.arg,.int .i64 x.to,.slice sa x.sl sc] 52)).setCell ⟨b,4,none⟩ (.slice (some ⟨g,0,none⟩) j kc)=V at *;have HV':Hid (MacA K L V b s.pop.nx ia il ic most (some ⟨g,0,none⟩) kc la lc):=HV;have HKV':Hid (Kept (fun y=>y=b) w V):=HKV
   have lbV:=HV.bl;have lwV:w.heap.size<V.heap.size:=lt_of_cell hbx2;have hne:b≠w.heap.size:=by omega
   have d2:=HV.c.c2;have g2:=HV.c.fz 2;clear HV HKV c4 f4 cg;go_wp2;go_ret;exact act_over (t:=s.fin 4) (HV'.out.later (bel1 _ _)) (kept_wide (kept_alloc HKV'.out _) (fun y h=>.inr (.inr h))) rfl ⟨_,_,rfl⟩
  ·rw[if_neg (by rw[hkd];decide),if_neg (by rw[hkd];decide)]at cg
   have HE:Hid (s.act x il I most={ s.pop with at_:=f.to }):=by
    show _=_;unfold MSt.act;simp only[hx,htop,hkd,hto'];simp
   have HKD:Hid (f.kind=2):=hkd;rw[HE.out];clear hx htop hkd hto';go_enter Tryz.func88,Tryz.ntmps88;go_wp2_with fail;refine (take_some b g j kc _ _ (cellOn _ c4) (frozenOn _ c4 f4) (cellOn _ cg) hj1 hjk).mono ?_;rintro e W ⟨rfl,hW⟩;subst W;obtain⟨HV,HKV⟩:=HPOP.out _ (bel1 w (.cells #[.int .i64 x.kind,.int .i64 x.arg,.int .i64 x.to,.slice sa x.sl sc] 52));have hbx2:((w.alloc (.cells #[.int .i64 x.kind,.int .i64 x.arg,.int .i64 x.to,.slice sa x.sl sc] 52)).setCell ⟨b,4,none⟩ (.slice (some ⟨g,0,none⟩) j kc)).cell? ⟨w.heap.size,2,none⟩=some (.int .i64 x.to):=cell_setB (by omega) (cN w.heap.size rfl rfl)
   generalize (w.alloc (.cells #[.int .i64 x.kind,.int .i64 x.arg,.int .i64 x.to,.slice sa x.sl sc] 52)).setCell ⟨b,4,none⟩ (.slice (some ⟨g,0,none⟩) j kc)=V at *;have HV':Hid (MacA K L V b s.pop.nx ia il ic most (some ⟨g,0,none⟩) kc la lc):=HV;have HKV':Hid (Kept (fun y=>y=b) w V):=HKV
   have lbV:=HV.bl;have lwV:w.heap.size<V.heap.size:=lt_of_cell hbx2;have hne:b≠w.heap.size:=by omega
   have d2:=HV.c.c2;have g2:=HV.c.fz 2;clear HV HKV c4 f4 cg;go_wp2;go_ret;have h3:MacA K L (V.setCell ⟨b,2,none⟩ (.int .i64 f.to)) b { s.pop with at_:=f.to } ia il ic most (some ⟨g,0,none⟩) kc la lc:=HV'.out.put ((Only.refl _ V).set b 2 _ rfl) rfl rfl (HV'.out.c.set2 f.to)
   exact act_on (h3.later (bel1 _ _)) (kept_wide (kept_alloc (kept_set HKV'.out 2 _) _) (fun y h=>.inr (.inr h))) HP.out.done
set_option maxRecDepth 100000 in
set_option maxHeartbeats 8000000 in
theorem twice_any(K L:Nat→Prop)(b:Nat)(s:MSt)(x:InsD)(sa:Option Addr)(sc:Nat)(ia:Option Addr)(il ic:Nat)(I:Nat→Int)(most:Int)(ka:Option Addr)(kc:Nat)(la:Option Addr)(lc:Nat)(w:World)(hA:MacA K L w b s.nx ia il ic most ka kc la lc)(hp:AP most s)(hx:x.kind=5) :
  Calls Tryz.prog 86 #[.pointer (some ⟨b,0,none⟩),insV x sa sc] w (ActIs (s.act x il I most) K L b ia il ic most w):=by
 have HA:Hid (MacA K L w b s.nx ia il ic most ka kc la lc):=hA;have HP:Hid (AP most s):=hp;have lb:=hA.bl;unfold insV;rcases top_cases s with⟨hst,htop⟩|⟨j,f,hj,hf,htop,hto⟩
 ·have HE:Hid (s.act x il I most=s.fin 4):=by
   show _=_;unfold MSt.act;simp only[hx,htop];simp
  have c4:w.cell? ⟨b,4,none⟩=some (.slice ka 0 kc):=by have:=hA.c.c4;rw[show s.nx.st.length=0 from hst]at this;exact this
  rw[HE.out];clear hA hx hp hst htop;go_enter Tryz.func86,Tryz.ntmps86;go_wp2_with fail;refine (take_none b ka kc _ (cellOn _ c4)).mono ?_;rintro e W ⟨rfl,hW⟩;subst W;go_wp2;go_ret;exact act_over (t:=s.fin 4) (HA.out.later (bel2 w _ _)) (Kept.of (bel2 w _ _)) rfl ⟨_,_,rfl⟩
 ·obtain⟨g,rfl,hg,hkc,cg⟩:=top_cell (l:=s.st) hA.st hj hf
  have c4:w.cell? ⟨b,4,none⟩=some (.slice (some ⟨g,0,none⟩) (j+1) kc):=by have:=hA.c.c4;rw[show s.nx.st.length=j+1 from hj]at this;exact this
  have f4:=hA.c.fz 4;have hkd:=HP.out.kinds f (List.mem_of_getElem? hf);have hj1:j≤1000:=by have:=HP.out.len';omega
  have hjk:j+1≤kc:=by omega
  have HJ:Hid (s.st.length=j+1):=hj;have HFJ:Hid (s.st[j]? = some f):=hf;have HTO:Hid (topTo s.st=f.to):=hto;obtain⟨nn,hnn⟩:∃nn,s.st.any (fun f=>f.kind==1)=nn:=⟨_,rfl⟩
  have HNN:Hid (s.st.any (fun f=>f.kind==1)=nn):=hnn
  rw[hnn]at cg;unfold frC at cg;have HPOP:Hid (∀W,Below w.heap.size w W→MacA K L (W.setCell ⟨b,4,none⟩ (.slice (some ⟨g,0,none⟩) j kc)) b s.pop.nx ia il ic most (some ⟨g,0,none⟩) kc la lc∧Kept (fun y=>y=b) w (W.setCell ⟨b,4,none⟩ (.slice (some ⟨g,0,none⟩) j kc))):=fun W hW=>⟨(HA.out.later hW).popped HJ.out,kept_set (Kept.of hW) 4 _⟩
  clear hA hp hnn hf hto hkc hj
  rcases hkd with hkd | hkd | hkd
  ·rw[if_pos hkd]at cg
   have HE:Hid (s.act x il I most=s.fin 4):=by
    show _=_;unfold MSt.act;simp only[hx,htop,hkd];simp
   have HKD:Hid (f.kind=0):=hkd;rw[HE.out];clear hx htop hkd;go_enter Tryz.func86,Tryz.ntmps86;go_wp2_with fail;refine (take_some b g j kc _ _ (cellOn _ c4) (frozenOn _ c4 f4) (cellOn _ cg) hj1 hjk).mono ?_;rintro e W ⟨rfl,hW⟩;subst W;obtain⟨HV,HKV⟩:=HPOP.out _ (bel1 w (.cells #[.int .i64 x.kind,.int .i64 x.arg,.int .i64 x.to,.slice sa x.sl sc] 52));have hbx2:((w.alloc (.cells #[.int .i64 x.kind,.int .i64 x.arg,.int .i64 x.to,.slice sa x.sl sc] 52)).setCell ⟨b,4,none⟩ (.slice (some ⟨g,0,none⟩) j kc)).cell? ⟨w.heap.size,2,none⟩=some (.int .i64 x.to):=cell_setB (by omega) (cN w.heap.size rfl rfl)
   generalize (w.alloc (.cells #[.int .i64 x.kind,.int .i64 x.arg,.int .i64 x.to,.slice sa x.sl sc] 52)).setCell ⟨b,4,none⟩ (.slice (some ⟨g,0,none⟩) j kc)=V at *;have HV':Hid (MacA K L V b s.pop.nx ia il ic most (some ⟨g,0,none⟩) kc la lc):=HV;have HKV':Hid (Kept (fun y=>y=b) w V):=HKV
   have lbV:=HV.bl;have lwV:w.heap.size<V.heap.size:=lt_of_cell hbx2;have hne:b≠w.heap.size:=by omega
   have d2:=HV.c.c2;have g2:=HV.c.fz 2;clear HV HKV c4 f4 cg;go_wp2;go_ret;exact act_over (t:=s.fin 4) (HV'.out.later (bel1 _ _)) (kept_wide (kept_alloc HKV'.out _) (fun y h=>.inr (.inr h))) rfl ⟨_,_,rfl⟩
  ·rw[if_neg (by rw[hkd];decide),if_pos hkd]at cg
   have HE:Hid (s.act x il I most=s.pop.fail):=by
    show _=_;unfold MSt.act;simp only[hx,htop,hkd];simp
   have HKD:Hid (f.kind=1):=hkd;rw[HE.out];clear hx htop hkd;go_enter Tryz.func86,Tryz.ntmps86;go_wp2_with fail;refine (take_some b g j kc _ _ (cellOn _ c4) (frozenOn _ c4 f4) (cellOn _ cg) hj1 hjk).mono ?_;rintro e W ⟨rfl,hW⟩;subst W;obtain⟨HV,HKV⟩:=HPOP.out _ (bel1 w (.cells #[.int .i64 x.kind,.int .i64 x.arg,.int .i64 x.to,.slice sa x.sl sc] 52));have hbx2:((w.alloc (.cells #[.int .i64 x.kind,.int .i64 x.arg,.int .i64 x.to,.slice sa x.sl sc] 52)).setCell ⟨b,4,none⟩ (.slice (some ⟨g,0,none⟩) j kc)).cell? ⟨w.heap.size,2,none⟩=some (.int .i64 x.to):=cell_setB (by omega) (cN w.heap.size rfl rfl)
   generalize (w.alloc (.cells #[.int .i64 x.kind,.int .i64 x.arg,.int .i64 x.to,.slice sa x.sl sc] 52)).setCell ⟨b,4,none⟩ (.slice (some ⟨g,0,none⟩) j kc)=V at *;have HV':Hid (MacA K L V b s.pop.nx ia il ic most (some ⟨g,0,none⟩) kc la lc):=HV;have HKV':Hid (Kept (fun y=>y=b) w V):=HKV
   have lbV:=HV.bl;have lwV:w.heap.size<V.heap.size:=lt_of_cell hbx2;have hne:b≠w.heap.size:=by omega
   have d2:=HV.c.c2;have g2:=HV.c.fz 2;clear HV HKV c4 f4 cg;go_wp2_with fail;refine (fail_any K L b s.pop.nx ia il ic most (some ⟨g,0,none⟩) kc la lc _ (HV'.out.later (bel1 _ _)) (ipop_len HP.out) HP.out.done (pop_last HP.out) (pop_kinds HP.out)).mono ?_;rintro e W9 hact;obtain⟨he,hact⟩:=hact;subst he;have HACT:Hid (ActIs (MSt.fail s.pop.nx) K L b ia il ic most _ _ W9):=⟨rfl,hact⟩;clear hact;go_wp2;go_ret;exact (HACT.out.from_ (kept_wide (kept_alloc HKV'.out _) (fun y h=>.inr (.inr h)))).fail
  ·rw[if_neg (by rw[hkd];decide),if_neg (by rw[hkd];decide)]at cg
   have HE:Hid (s.act x il I most=s.fin 4):=by
    show _=_;unfold MSt.act;simp only[hx,htop,hkd];simp
   have HKD:Hid (f.kind=2):=hkd;rw[HE.out];clear hx htop hkd;go_enter Tryz.func86,Tryz.ntmps86;go_wp2_with fail;refine (take_some b g j kc _ _ (cellOn _ c4) (frozenOn _ c4 f4) (cellOn _ cg) hj1 hjk).mono ?_;rintro e W ⟨rfl,hW⟩;subst W;obtain⟨HV,HKV⟩:=HPOP.out _ (bel1 w (.cells #[.int .i64 x.kind,.int .i64 x.arg,.int .i64 x.to,.slice sa x.sl sc] 52));have hbx2:((w.alloc (.cells #[.int .i64 x.kind,.int .i64 x.arg,.int .i64 x.to,.slice sa x.sl sc] 52)).setCell ⟨b,4,none⟩ (.slice (some ⟨g,0,none⟩) j kc)).cell? ⟨w.heap.size,2,none⟩=some (.int .i64 x.to):=cell_setB (by omega) (cN w.heap.size rfl rfl)
   generalize (w.alloc (.cells #[.int .i64 x.kind,.int .i64 x.arg,.int .i64 x.to,.slice sa x.sl sc] 52)).setCell ⟨b,4,none⟩ (.slice (some ⟨g,0,none⟩) j kc)=V at *;have HV':Hid (MacA K L V b s.pop.nx ia il ic most (some ⟨g,0,none⟩) kc la lc):=HV;have HKV':Hid (Kept (fun y=>y=b) w V):=HKV
   have lbV:=HV.bl;have lwV:w.heap.size<V.heap.size:=lt_of_cell hbx2;have hne:b≠w.heap.size:=by omega
   have d2:=HV.c.c2;have g2:=HV.c.fz 2;clear HV HKV c4 f4 cg;go_wp2;go_ret;exact act_over (t:=s.fin 4) (HV'.out.later (bel1 _ _)) (kept_wide (kept_alloc HKV'.out _) (fun y h=>.inr (.inr h))) rfl ⟨_,_,rfl⟩
set_option maxRecDepth 100000 in
set_option maxHeartbeats 8000000 in
theorem partial_any(K L:Nat→Prop)(b:Nat)(s:MSt)(x:InsD)(sa:Option Addr)(sc:Nat)(ia:Option Addr)(il ic:Nat)(I:Nat→Int)(most:Int)(ka:Option Addr)(kc:Nat)(la:Option Addr)(lc:Nat)(w:World)(hA:MacA K L w b s.nx ia il ic most ka kc la lc)(hp:AP most s)(hx:x.kind=3) :
  Calls Tryz.prog 84 #[.pointer (some ⟨b,0,none⟩),insV x sa sc] w (ActIs (s.act x il I most) K L b ia il ic most w):=by
 have HA:Hid (MacA K L w b s.nx ia il ic most ka kc la lc):=hA;have HP:Hid (AP most s):=hp;have lb:=hA.bl;unfold insV;rcases top_cases s with⟨hst,htop⟩|⟨j,f,hj,hf,htop,hto⟩
 ·have HE:Hid (s.act x il I most=s.fin 4):=by
   show _=_;unfold MSt.act;simp only[hx,htop];simp
  have c4:w.cell? ⟨b,4,none⟩=some (.slice ka 0 kc):=by have:=hA.c.c4;rw[show s.nx.st.length=0 from hst]at this;exact this
  rw[HE.out];clear hA hx hp hst htop;go_enter Tryz.func84,Tryz.ntmps84;go_wp2_with fail;refine (take_none b ka kc _ (cellOn _ c4)).mono ?_;rintro e W ⟨rfl,hW⟩;subst W;go_wp2;go_ret;exact act_over (t:=s.fin 4) (HA.out.later (bel2 w _ _)) (Kept.of (bel2 w _ _)) rfl ⟨_,_,rfl⟩
 ·obtain⟨g,rfl,hg,hkc,cg⟩:=top_cell (l:=s.st) hA.st hj hf
  have c4:w.cell? ⟨b,4,none⟩=some (.slice (some ⟨g,0,none⟩) (j+1) kc):=by have:=hA.c.c4;rw[show s.nx.st.length=j+1 from hj]at this;exact this
  have f4:=hA.c.fz 4;have hkd:=HP.out.kinds f (List.mem_of_getElem? hf);have hj1:j≤1000:=by have:=HP.out.len';omega
  have hjk:j+1≤kc:=by omega
  have HJ:Hid (s.st.length=j+1):=hj;have HFJ:Hid (s.st[j]? = some f):=hf;have HTO:Hid (topTo s.st=f.to):=hto;obtain⟨nn,hnn⟩:∃nn,s.st.any (fun f=>f.kind==1)=nn:=⟨_,rfl⟩
  have HNN:Hid (s.st.any (fun f=>f.kind==1)=nn):=hnn
  rw[hnn]at cg;unfold frC at cg;have HPOP:Hid (∀W,Below w.heap.size w W→MacA K L (W.setCell ⟨b,4,none⟩ (.slice (some ⟨g,0,none⟩) j kc)) b s.pop.nx ia il ic most (some ⟨g,0,none⟩) kc la lc∧Kept (fun y=>y=b) w (W.setCell ⟨b,4,none⟩ (.slice (some ⟨g,0,none⟩) j kc))):=fun W hW=>⟨(HA.out.later hW).popped HJ.out,kept_set (Kept.of hW) 4 _⟩
  have hto':=hto;clear hA hp hnn hf hto hkc hj
  rcases hkd with hkd | hkd | hkd
  ·rw[if_pos hkd]at cg
   have HE:Hid (s.act x il I most=({ s.pop with at_:=x.to }).push ⟨0,f.to,s.pos,s.log.length⟩ most):=by
    show _=_;unfold MSt.act;simp only[hx,htop,hkd,hto'];simp
   have HKD:Hid (f.kind=0):=hkd;rw[HE.out];clear hx htop hkd hto';go_enter Tryz.func84,Tryz.ntmps84;go_wp2_with fail;refine (take_some b g j kc _ _ (cellOn _ c4) (frozenOn _ c4 f4) (cellOn _ cg) hj1 hjk).mono ?_;rintro e W ⟨rfl,hW⟩;subst W;obtain⟨HV,HKV⟩:=HPOP.out _ (bel1 w (.cells #[.int .i64 x.kind,.int .i64 x.arg,.int .i64 x.to,.slice sa x.sl sc] 52));have hbx2:((w.alloc (.cells #[.int .i64 x.kind,.int .i64 x.arg,.int .i64 x.to,.slice sa x.sl sc] 52)).setCell ⟨b,4,none⟩ (.slice (some ⟨g,0,none⟩) j kc)).cell? ⟨w.heap.size,2,none⟩=some (.int .i64 x.to):=cell_setB (by omega) (cN w.heap.size rfl rfl)
   generalize (w.alloc (.cells #[.int .i64 x.kind,.int .i64 x.arg,.int .i64 x.to,.slice sa x.sl sc] 52)).setCell ⟨b,4,none⟩ (.slice (some ⟨g,0,none⟩) j kc)=V at *;have HV':Hid (MacA K L V b s.pop.nx ia il ic most (some ⟨g,0,none⟩) kc la lc):=HV;have HKV':Hid (Kept (fun y=>y=b) w V):=HKV
   have lbV:=HV.bl;have lwV:w.heap.size<V.heap.size:=lt_of_cell hbx2;have hne:b≠w.heap.size:=by omega
   have d2:=HV.c.c2;have g2:=HV.c.fz 2;clear HV HKV c4 f4 cg;go_wp2_with fail;refine (here_any b s.pos s.log.length lc la _ (HV'.out.later (bel1 _ _)).c.c3 (HV'.out.later (bel1 _ _)).c.c5).mono ?_;rintro e W2 ⟨rfl,hb⟩;have HA2:Hid (MacA K L W2 b s.pop.nx ia il ic most (some ⟨g,0,none⟩) kc la lc):=HV'.out.later (bel_tr (bel1 _ _) hb);have HB2:Hid (Below V.heap.size V W2):=bel_tr (bel1 _ _) hb;have y0:=cell_on (a:=⟨V.heap.size,0,none⟩) (v:=.int .i64 f.to) (cN V.heap.size rfl rfl) hb;have y1:=cell_on (a:=⟨V.heap.size,1,none⟩) (v:=.bool nn) (cN V.heap.size rfl rfl) hb;have y2:=cell_on (a:=⟨V.heap.size,2,none⟩) (v:=.int .i64 (f.pos:Int)) (cN V.heap.size rfl rfl) hb;have y3:=cell_on (a:=⟨V.heap.size,3,none⟩) (v:=.int .i64 (f.log:Int)) (cN V.heap.size rfl rfl) hb;have fz:∀o,W2.frozen? ⟨V.heap.size,o,none⟩=false:=fun o=>by
    rw[hb.frozen (p:=⟨V.heap.size,o,none⟩) (by simp)]
    exact soft1 V _ 149 _ _ (by omega) (by simp)
   have q2:=fz 2;have q3:=fz 3;have x2:=cell_on hbx2 HB2.out;have lw2:w.heap.size<W2.heap.size:=lt_of_cell x2;have lv2:V.heap.size<W2.heap.size:=lt_of_cell y0;have e2:=HA2.out.c.c2;have r2:=HA2.out.c.fz 2;have lb2:=HA2.out.bl;have hne2:b≠V.heap.size:=by omega
   have hne3:w.heap.size≠V.heap.size:=by omega
   clear hb fz hbx2 d2 g2;go_wp2_with fail;have HA3:Hid (MacA K L (((W2.setCell ⟨V.heap.size,2,none⟩ (.int .i64 (s.pos:Int))).setCell ⟨V.heap.size,3,none⟩ (.int .i64 (s.log.length:Int))).setCell ⟨b,2,none⟩ (.int .i64 x.to)) b { s.pop with at_:=x.to } ia il ic most (some ⟨g,0,none⟩) kc la lc):=by
    have hb2:∀y,K y∨L y∨y=b→y≠V.heap.size:=fun y hy e=>by
     subst e;rcases hy with q | q | q
     ·have:=HV'.out.lt _ (.inl q);omega
     ·have:=HV'.out.lt _ (.inr q);omega
     ·omega
    have h4:MacA K L ((W2.setCell ⟨V.heap.size,2,none⟩ (.int .i64 (s.pos:Int))).setCell ⟨V.heap.size,3,none⟩ (.int .i64 (s.log.length:Int))) b s.pop.nx ia il ic most (some ⟨g,0,none⟩) kc la lc:=HA2.out.on (fun y hy=>(Below.heap_setCell _ _ _ _ (hb2 y hy)).trans (Below.heap_setCell _ _ _ _ (hb2 y hy))) (by rw[size_set,size_set];exact Nat.le_refl _)
    exact h4.put ((Only.refl _ _).set b 2 _ rfl) rfl rfl (h4.c.set2 x.to)
   have HK3:Hid (Kept (fun y=>K y∨L y∨y=b) w (((W2.setCell ⟨V.heap.size,2,none⟩ (.int .i64 (s.pos:Int))).setCell ⟨V.heap.size,3,none⟩ (.int .i64 (s.log.length:Int))).setCell ⟨b,2,none⟩ (.int .i64 x.to))):=by
    have h5:Kept (fun y=>y=b) w W2:=kept_trans HKV'.out (Kept.of HB2.out)
    exact kept_wide (kept_set ((h5.set _ _ _ (by have:=HKV'.out.size;omega)).set _ _ _ (by have:=HKV'.out.size;omega)) 2 _) (fun y h=>.inr (.inr h))
   refine (push_any K L b { s.pop with at_:=x.to } ⟨0,f.to,s.pos,s.log.length⟩ _ _ ia il ic most (some ⟨g,0,none⟩) kc la lc _ HA3.out (ipop_len HP.out) (pop_most HP.out) HP.out.done (by rw[show ({ s.pop with at_:=x.to }:MSt).inNot=nn from pop_not HJ.out HFJ.out (by rw[HKD.out];rfl) HNN.out];unfold frC;simp)).mono ?_
   rintro e W9 hact;obtain⟨he,hact⟩:=hact;subst he;have HACT:Hid (ActIs (MSt.push { s.pop with at_:=x.to } ⟨0,f.to,s.pos,s.log.length⟩ most) K L b ia il ic most _ _ W9):=⟨rfl,hact⟩
   clear hact;go_wp2;go_ret;exact HACT.out.from_ HK3.out
  ·rw[if_neg (by rw[hkd];decide),if_pos hkd]at cg
   have HE:Hid (s.act x il I most=s.fin 4):=by
    show _=_;unfold MSt.act;simp only[hx,htop,hkd,hto'];simp
   have HKD:Hid (f.kind=1):=hkd;rw[HE.out];clear hx htop hkd hto';go_enter Tryz.func84,Tryz.ntmps84;go_wp2_with fail;refine (take_some b g j kc _ _ (cellOn _ c4) (frozenOn _ c4 f4) (cellOn _ cg) hj1 hjk).mono ?_;rintro e W ⟨rfl,hW⟩;subst W;obtain⟨HV,HKV⟩:=HPOP.out _ (bel1 w (.cells #[.int .i64 x.kind,.int .i64 x.arg,.int .i64 x.to,.slice sa x.sl sc] 52));have hbx2:((w.alloc (.cells #[.int .i64 x.kind,.int .i64 x.arg,.int .i64 x.to,.slice sa x.sl sc] 52)).setCell ⟨b,4,none⟩ (.slice (some ⟨g,0,none⟩) j kc)).cell? ⟨w.heap.size,2,none⟩=some (.int .i64 x.to):=cell_setB (by omega) (cN w.heap.size rfl rfl)
   generalize (w.alloc (.cells #[.int .i64 x.kind,.int .i64 x.arg,.int .i64 x.to,.slice sa x.sl sc] 52)).setCell ⟨b,4,none⟩ (.slice (some ⟨g,0,none⟩) j kc)=V at *;have HV':Hid (MacA K L V b s.pop.nx ia il ic most (some ⟨g,0,none⟩) kc la lc):=HV;have HKV':Hid (Kept (fun y=>y=b) w V):=HKV
   have lbV:=HV.bl;have lwV:w.heap.size<V.heap.size:=lt_of_cell hbx2;have hne:b≠w.heap.size:=by omega
   have d2:=HV.c.c2;have g2:=HV.c.fz 2;clear HV HKV c4 f4 cg;go_wp2;go_ret;exact act_over (t:=s.fin 4) (HV'.out.later (bel1 _ _)) (kept_wide (kept_alloc HKV'.out _) (fun y h=>.inr (.inr h))) rfl ⟨_,_,rfl⟩
  ·rw[if_neg (by rw[hkd];decide),if_neg (by rw[hkd];decide)]at cg
   have HE:Hid (s.act x il I most=s.fin 4):=by
    show _=_;unfold MSt.act;simp only[hx,htop,hkd,hto'];simp
   have HKD:Hid (f.kind=2):=hkd;rw[HE.out];clear hx htop hkd hto';go_enter Tryz.func84,Tryz.ntmps84;go_wp2_with fail;refine (take_some b g j kc _ _ (cellOn _ c4) (frozenOn _ c4 f4) (cellOn _ cg) hj1 hjk).mono ?_;rintro e W ⟨rfl,hW⟩;subst W;obtain⟨HV,HKV⟩:=HPOP.out _ (bel1 w (.cells #[.int .i64 x.kind,.int .i64 x.arg,.int .i64 x.to,.slice sa x.sl sc] 52));have hbx2:((w.alloc (.cells #[.int .i64 x.kind,.int .i64 x.arg,.int .i64 x.to,.slice sa x.sl sc] 52)).setCell ⟨b,4,none⟩ (.slice (some ⟨g,0,none⟩) j kc)).cell? ⟨w.heap.size,2,none⟩=some (.int .i64 x.to):=cell_setB (by omega) (cN w.heap.size rfl rfl)
   generalize (w.alloc (.cells #[.int .i64 x.kind,.int .i64 x.arg,.int .i64 x.to,.slice sa x.sl sc] 52)).setCell ⟨b,4,none⟩ (.slice (some ⟨g,0,none⟩) j kc)=V at *;have HV':Hid (MacA K L V b s.pop.nx ia il ic most (some ⟨g,0,none⟩) kc la lc):=HV;have HKV':Hid (Kept (fun y=>y=b) w V):=HKV
   have lbV:=HV.bl;have lwV:w.heap.size<V.heap.size:=lt_of_cell hbx2;have hne:b≠w.heap.size:=by omega
   have d2:=HV.c.c2;have g2:=HV.c.fz 2;clear HV HKV c4 f4 cg;go_wp2;go_ret;exact act_over (t:=s.fin 4) (HV'.out.later (bel1 _ _)) (kept_wide (kept_alloc HKV'.out _) (fun y h=>.inr (.inr h))) rfl ⟨_,_,rfl⟩
end
end Go.Proofs.YtcbnnfnlilbjeaaGreat
