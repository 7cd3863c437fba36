import Derived.Test.YtpghlcdkfldlpaaGreatT52
set_option linter.unusedVariables false
set_option linter.unusedSimpArgs false
set_option maxHeartbeats 40000000
set_option maxRecDepth 100000
namespace Go.Proofs.YtpghlcdkfldlpaaGreat
open Go.RowKit
open M (OpD ue Gr um)
theorem ukQ K L b s x B C f il ic I most ka kc la lc w(G : MacA K L w b s.nx f il ic most ka kc la lc)(J : AP most s)(Z : s.throws<=1048576)(N : x.kind=8) :
    Calls Tryz.prog 118 #[.pointer (some ⟨b,0,none⟩),kq x B C] w (ActIs (s.act x il I most) K L b f il ic most w):=by
  have o:Hid (MacA K L w b s.nx f il ic most ka kc la lc):=G
  have d:Hid (AP most s):=J
  unfold kq
  have D:Hid (s.act x il I most=if s.inNot then s.fail else if x.to<0 then ({ s with throws:=s.throws+1,label:=x.arg }).fin 2 else ({ s with throws:=s.throws+1 }).enter x most):=by
    show _=_
    unfold MSt.act
    simp only [N]
    simp
  obtain ⟨m,z⟩:∃ m,s.inNot=m:=⟨_,rfl⟩
  have O:Hid (s.nx.inNot=m):=z
  have n:=D.out
  rw [z] at n
  obtain ⟨T,H⟩:∃ T,s.act x il I most=T:=⟨_,rfl⟩
  rw [H] at n ⊢
  have k:Hid (T=if m=true then s.fail else if x.to<0 then ({ s with throws:=s.throws+1,label:=x.arg }).fin 2 else ({ s with throws:=s.throws+1 }).enter x most):=n
  clear G J N z n D H
  go_enter Tryz.func118,Tryz.ntmps118
  go_wp2_with fail
  refine (qp K L b s.nx f il ic most ka kc la lc _ (o.out.later (uf w _)) d.out.len').mono ?_
  rintro e W ⟨rfl,j⟩
  rw [O.out]
  have g:Hid (MacA K L W b s.nx f il ic most ka kc la lc):=o.out.later (ud (uf w _) j)
  have F:Hid (Below w.heap.size w W):=ud (uf w _) j
  have R:=uc (a:=⟨w.heap.size,0,none⟩) (v:=.int .i64 x.kind) (cN w.heap.size rfl rfl) j
  have x1:=uc (a:=⟨w.heap.size,1,none⟩) (v:=.int .i64 x.arg) (cN w.heap.size rfl rfl) j
  have x2:=uc (a:=⟨w.heap.size,2,none⟩) (v:=.int .i64 x.to) (cN w.heap.size rfl rfl) j
  have x3:=uc (a:=⟨w.heap.size,3,none⟩) (v:=.slice B x.sl C) (cN w.heap.size rfl rfl) j
  have lw:w.heap.size<W.heap.size:=ub R
  have U:W.cell? ⟨b,264,none⟩=some (.int .i64 (s.throws:Int)):=g.out.c.c9
  have S:W.cell? ⟨b,265,none⟩=some (.int .i64 s.label):=g.out.c.c10
  have X:=g.out.c.fz 264
  have V:=g.out.c.fz 265
  have aa:=g.out.bl
  have ab:=o.out.bl
  have Y:b≠w.heap.size:=by omega
  clear j
  cases m with
  | true =>
    have l:Hid (T=s.fail):=by show _=_;rw [k.out,if_pos rfl]
    clear k
    go_wp2_with fail
    refine (jQ K L b s.nx f il ic most ka kc la lc _ g.out d.out.len' d.out.done d.out.last d.out.kinds).mono ?_
    rintro e r i
    obtain ⟨u,i⟩:=i
    subst u
    have q:Hid (ActIs (MSt.fail s.nx) K L b f il ic most _ _ r):=⟨rfl,i⟩
    clear i
    go_wp2
    go_ret
    rw [l.out]
    exact (q.out.below F.out).fail
  | false =>
    have p:Hid (MacA K L (W.setCell ⟨b,264,none⟩ (.int .i64 ((s.throws:Int)+1))) b (MSt.nx { s with throws:=s.throws+1 }) f il ic most ka kc la lc):=by
      have h:=g.out.put (s':=MSt.nx { s with throws:=s.throws+1 }) ((Only.refl _ W).set b 264 (.int .i64 ((s.throws+1:Nat):Int)) rfl) rfl rfl (g.out.c.set9 (s.throws+1))
      rw [Int.natCast_add,Int.natCast_one] at h
      exact h
    have E:Hid (Kept (fun y=>K y\/L y\/y=b) w (W.setCell ⟨b,264,none⟩ (.int .i64 ((s.throws:Int)+1)))):=uN (vk (Kept.of F.out) 264 _) (fun y h=>.inr (.inr h))
    by_cases A:x.to<0
    · have l:Hid (T=({ s with throws:=s.throws+1,label:=x.arg }:MSt).fin 2):=by show _=_;rw [k.out,if_neg (by decide),if_pos A]
      clear k
      go_wp2
      go_ret
      rw [l.out]
      have P:MacA K L ((W.setCell ⟨b,264,none⟩ (.int .i64 ((s.throws:Int)+1))).setCell ⟨b,265,none⟩ (.int .i64 x.arg)) b (MSt.nx { s with throws:=s.throws+1,label:=x.arg }) f il ic most ka kc la lc:=p.out.put ((Only.refl _ _).set b 265 _ rfl) rfl rfl (p.out.c.set10 x.arg)
      exact vr (t:=({ s with throws:=s.throws+1,label:=x.arg }:MSt).fin 2) P (yV E.out (uN (vk (kE _ _) 265 _) (fun y h=>.inr (.inr h)))) rfl ⟨_,_,rfl⟩
    · have hto':¬ x.to<0:=A
      have l:Hid (T=MSt.enter { s with throws:=s.throws+1 } x most):=by show _=_;rw [k.out,if_neg (by decide),if_neg A]
      clear k
      have Q:AP most { s with throws:=s.throws+1 }:=⟨d.out.m1,d.out.len,d.out.last,d.out.kinds,d.out.logl,d.out.done⟩
      go_wp2_with fail
      refine (ug5 K L b { s with throws:=s.throws+1 } x B C f il ic I most ka kc la lc _ p.out Q).mono ?_
      rintro e r i
      obtain ⟨u,i⟩:=i
      subst u
      have q:Hid (ActIs (MSt.enter { s with throws:=s.throws+1 } x most) K L b f il ic most _ _ r):=⟨rfl,i⟩
      go_wp2
      go_ret
      rw [l.out]
      exact q.from_ E
theorem uoQ K L b s x g h f il ic I most ka kc la lc w(l : MacA K L w b s.nx f il ic most ka kc la lc)(m : AP most s)(n : x.kind=4) :
    Calls Tryz.prog 114 #[.pointer (some ⟨b,0,none⟩),kq x g h] w (ActIs (s.act x il I most) K L b f il ic most w):=by
  have j:=ua m
  have t:Hid (s.act x il I most=(s.nx).push ⟨1,x.to,s.pos,s.log.length⟩ most):=by
    show _=_
    unfold MSt.act
    simp only [n]
    simp [MSt.hold,MSt.nx]
  rw [t.out]
  unfold kq
  have o:=ua l
  clear l m n
  go_enter Tryz.func114,Tryz.ntmps114
  go_wp2
  have k:=uf w (.cells #[.int .i64 x.kind,.int .i64 x.arg,.int .i64 x.to,.slice g x.sl h] 79)
  have B:(w.alloc (.cells #[.int .i64 x.kind,.int .i64 x.arg,.int .i64 x.to,.slice g x.sl h] 79)).cell? ⟨w.heap.size,2,none⟩=some (.int .i64 x.to):=cN w.heap.size rfl rfl
  generalize w.alloc (.cells #[.int .i64 x.kind,.int .i64 x.arg,.int .i64 x.to,.slice g x.sl h] 79)=X at *
  have u:=ua k
  have i:=ua (o.later k)
  have v:Hid (∀ W,Below X.heap.size X W->W.cell? ⟨w.heap.size,2,none⟩=some (.int .i64 x.to)):=fun W z=>uc B z
  clear k
  go_region_with (first
    | (go_at_call 139
       refine (udL b s.pos s.log.length lc la _ (i.later (Below.refl _ X).drew).c.c3 (i.later (Below.refl _ X).drew).c.c5).mono ?_
       rintro e W ⟨rfl,d⟩
       have y2:=v W (ud (Below.refl _ X).drew d)
       have q:=ua (i.later (ud (Below.refl _ X).drew d))
       have r:=ua (ud (Below.refl _ X).drew d)
       clear d)
    | (go_at_call 137
       refine (uby K L b s.nx ⟨1,x.to,s.pos,s.log.length⟩ _ _ f il ic most ka kc la lc _ q j.len' j.len j.done (by unfold frC;simp)).mono ?_
       rintro e y a
       obtain ⟨A,a⟩:=a
       subst A
       have p:Hid (ActIs (MSt.push s.nx ⟨1,x.to,s.pos,s.log.length⟩ most) K L b f il ic most _ _ y):=⟨rfl,a⟩
       clear a))
  all_goals
    go_wp2
    go_ret
    exact (p.below r).below u
theorem uoR : (Tryz.prog.info? 135).map (fun i=>(i.zero,i.size,i.bytes))=some (some (.agg #[.int .i64 0,.int .i64 0,.int .i64 0]),3,24):=by kernel_rfl
theorem uoS : vV 35 135 3 24:=⟨Tryz.underlying35,⟨_,uoR,rfl⟩,by omega⟩
def evO (e : EvD) : Obj:=.cells #[.int .i64 e.kind,.int .i64 e.arg,.int .i64 e.pos] 135
theorem uoT (w : World) (e : EvD) : Src Tryz.prog 3 35 (.slice (some ⟨w.heap.size,0,none⟩) 1 1) 1 (evv e) (w.alloc (evO e)):=by
  refine Src.ofSlice (P:=Tryz.prog) _ Tryz.underlying35 ⟨w.heap.size,0,none⟩ 1 1 (evv e) rfl (fun j u a=>?_) (fun u a=>?_)
  · have e':(⟨w.heap.size,0,none⟩:Addr).add j=⟨w.heap.size,j,none⟩:=by
      by_cases b:j=0
      · subst b;simp [Addr.add]
      · simp [Addr.add,b]
    rw [e']
    match j,a with
    | 0,a=>exact cN w.heap.size rfl a
    | 1,a=>exact cN w.heap.size rfl a
    | 2,a=>exact cN w.heap.size rfl a
    | j+3,a=>simp [evv] at a
  · simp [evv] at a
    rcases a with rfl | rfl | rfl <;> rfl
theorem evT {ops : Array Oper} {o : Oper} {a : Act} {w : World} {K : Act->World->Prop} {g : Exit->Act->World->Prop} {E : Prop} (j : o.guard=none) (s x : Operand) (n : o.op = .call { callee:=.builtin .append,args:=#[s,x],argTypes:=#[35,35] })
    {L:Nat->Prop} {w1:World} {v y:Value} {m:Nat} {cs:List Value} {d:EvD} (p:a.eval s=v) (r:a.eval x=y) (t:y = .slice (some ⟨w1.heap.size,0,none⟩) 1 1) (q:w=w1.alloc (evO d)) (h:OwnC L w1 v 3 m cs) (l:∀ b,L b->b<w1.heap.size) (z:m<=4194304)
    (k:∀ w' c e,Hid (OwnC (fun b=>L b\/(w1.alloc (evO d)).heap.size<=b) w' (.slice c (m+1) e) 3 (m+1) (cs ++ evv d))->Hid (Grew (fun b=>L b) (w1.alloc (evO d)) w')->K (a.put o.dst (.slice c (m+1) e)) w'):if Region.wanted o (yielded ops a.tmps)=true then Oper.wp Tryz.prog o a w K g else E:=by
  subst q t
  have b1:=uf w1 (evO d)
  refine ulo j s x 35 35 n p r uoS (h.on (fun b i=>b1.block b (l b i))) (uoT w1 d) (by omega) (fun _=>Nat.one_pos) ?_
  intro B w' f u A
  obtain ⟨c,e,rfl⟩:=ul f
  exact k w' c e f u
theorem uoU {K L : Nat->Prop} {b : Nat} {s : MSt} {k a : Int} {p : Option Addr} {il ic : Nat} {most : Int} {ka : Option Addr} {kc : Nat} {la : Option Addr} {lc : Nat} {w Y W : World} {i : Option Addr} {l : Nat} (d : MacA K L w b s.nx p il ic most ka kc la lc) (E : s.done=false) (n : Below w.heap.size w Y) (m : Grew (fun x=>L x) Y W)
    (B:OwnC (fun x=>L x\/Y.heap.size<=x) W (.slice i (s.log.length+1) l) 3 (s.log.length+1) (uY s.log ++ evv ⟨k,a,s.pos⟩)) :
    ActIs (s.put k a) K L b p il ic most w (.returned (.int .i64 (-1))) (W.setCell ⟨b,5,none⟩ (.slice i (s.log.length+1) l)):=by
  have D:=d.bl
  have N:=n.size
  have J:=m.size
  have blk:∀ x,x<w.heap.size->¬ L x->W.heap[x]? = w.heap[x]?:=fun x f o=>(m.block x (by omega) o).trans (n.block x f)
  have C:=blk b D d.lb
  refine ⟨by unfold jP;simp [MSt.put,E],s.at_+1,s.st,ka,kc,i,l,K,fun x=>(L x\/Y.heap.size<=x)/\x<W.heap.size,fun _=>⟨rfl,rfl⟩,⟨?_,?_,?_,?_,?_,d.kb,?_⟩,fun x f=>.inl f,?_,?_⟩
  · show MacC _ b _ p il ic most ka s.st.length kc i (s.log ++ [_]).length l
    rw [List.length_append,List.length_singleton]
    have h:=(d.c.on C).set5 i (s.log.length+1) l
    exact h.re rfl rfl rfl rfl rfl rfl rfl
  · exact d.st.on (fun x f=>(Below.heap_setCell _ _ _ _ (fun e=>d.kb (by simp at e;exact e ▸ f))).trans (blk x (d.lt x (.inl f)) (fun q=>d.kl x f q)))
  · show OwnC _ _ (.slice i (s.log ++ [_]).length l) 3 (s.log ++ [_]).length (uY (s.log ++ [_]))
    rw [jn,List.length_append,List.length_singleton]
    rcases B with ⟨e,_⟩ | ⟨g,cap,e,v,y,z,A,r⟩
    · injection e with _ e2;exact absurd e2 (by omega)
    · have G:g<W.heap.size:=by
        obtain ⟨u,I⟩:=Option.isSome_iff_exists.1 (r 0 (by omega)).1
        exact ub I
      have H:g≠b:=fun e=>by
        subst e
        rcases v with q | q
        · exact d.lb q
        · omega
      have o:(W.setCell ⟨b,5,none⟩ (.slice i (s.log.length+1) l)).heap[g]? = W.heap[g]?:=Below.heap_setCell _ _ _ _ H
      exact .inr ⟨g,cap,e,⟨v,G⟩,y,z,fun j F=>(World.cell?_of_block (a:=⟨g,j,none⟩) o).trans (A j F),r.later o⟩
  · intro x f
    rw [uh]
    rcases f with q | q
    · have:=d.lt x (.inl q);omega
    · exact q.2
  · rintro x h ⟨q | q,_⟩
    · exact d.kl x h q
    · have:=d.lt x (.inl h);omega
  · rintro ⟨q | q,_⟩
    · exact d.lb q
    · omega
  · rintro x ⟨q | q,h⟩
    · exact .inl q
    · exact .inr ⟨by omega,by rw [uh];exact h⟩
  · refine ⟨m.os.trans n.os,m.tape.trans n.tape,m.output.trans n.output,by rw [uh];omega,fun x f t=>(Below.heap_setCell _ _ _ _ (fun e=>t (.inr (.inr e)))).trans (blk x f (fun q=>t (.inr (.inl q))))⟩
theorem qW K L b m kd s x i j u il ic most ka kc la lc w(H : MacA K L w b s.nx u il ic most ka kc la lc)(r : AP most s)(q : w.cell? ⟨m,0,none⟩=some (.int .i64 kd))(J : ¬ L m) :
    Calls Tryz.prog 141 #[.pointer (some ⟨b,0,none⟩),kq x i j,.pointer (some ⟨m,0,none⟩)] w (ActIs (s.put kd x.arg) K L b u il ic most w):=by
  have l:=ua H
  have E:=ua r
  have N:=r.logl
  unfold kq
  go_enter Tryz.func141,Tryz.ntmps141
  go_wp2
  have k:=uf w (.cells #[.int .i64 x.kind,.int .i64 x.arg,.int .i64 x.to,.slice i x.sl j] 79)
  have x1:(w.alloc (.cells #[.int .i64 x.kind,.int .i64 x.arg,.int .i64 x.to,.slice i x.sl j] 79)).cell? ⟨w.heap.size,1,none⟩=some (.int .i64 x.arg):=cN w.heap.size rfl rfl
  have O:(w.alloc (.cells #[.int .i64 x.kind,.int .i64 x.arg,.int .i64 x.to,.slice i x.sl j] 79)).heap.size=w.heap.size+1:=by simp
  generalize w.alloc (.cells #[.int .i64 x.kind,.int .i64 x.arg,.int .i64 x.to,.slice i x.sl j] 79)=X at *
  have F:=ua k
  have f:=ua (l.later k)
  have P:=uc q k
  have S:=f.c.c3
  have G:X.cell? ⟨b,5,none⟩=some (.slice la s.log.length lc):=f.c.c5
  have Q:=f.bl
  have U:=ub P
  have V:w.heap.size<X.heap.size:=by omega
  obtain ⟨ln,g⟩:∃ ln,s.log.length=ln:=⟨_,rfl⟩
  have B:=ua g
  rw [g] at G N
  have D:Hid (OwnC L X.drew (.slice la ln lc) 3 ln (uY s.log)):=by
    have h:=f.log
    rw [show s.nx.log.length=ln from g] at h
    exact h.on (fun y t=>rfl)
  have C:Hid (∀ y,L y->y<X.drew.heap.size):=fun y t=>f.lt y (.inr t)
  have A:Hid (∀ W o,Grew (fun y=>L y) (X.drew.alloc o) W->W.cell? ⟨b,5,none⟩=some (.slice la ln lc)/\W.frozen? ⟨b,5,none⟩=false):=fun W o I=>by
    have e:=(I.block b (by simp;omega) l.lb).trans (Below.heap_alloc X.drew _ _ Q)
    exact ⟨(World.cell?_of_block (a:=⟨b,5,none⟩) e).trans (by have:=f.c.c5;rw [show s.nx.log.length=ln from g] at this;exact this),(World.frozen?_of_block (a:=⟨b,5,none⟩) e).trans (f.c.fz 5)⟩
  clear q k O g J
  go_region_law (first
    | (refine evT rfl (.tmp 10) (.tmp 19) rfl (w1:=X.drew) (L:=L) (v:=.slice la ln lc) (y:=.slice (some ⟨X.heap.size,0,none⟩) 1 1) (cs:=uY s.log) (d:=⟨kd,x.arg,s.pos⟩) (by simp [Act.eval]) (by simp [Act.eval]) rfl rfl D.out C.out (by omega) ?_
       intro W4 R T z n
       obtain ⟨Z,v5⟩:=A W4 _ n))
  all_goals go_goals
  all_goals go_wp2
  all_goals go_ret
  all_goals
    have p:=z
    rw [<- B.out] at p ⊢
    exact (uoU (Y:=X.drew.alloc (evO ⟨kd,x.arg,s.pos⟩)) l E.done (ud F (ud (Below.refl _ X).drew (uf X.drew _))) n p)
theorem um6{ι:Type}{F:ι->World}{w}{f:FuncId}{args:Array Value}{n:ι}{v:Bool}(a:Below w.heap.size w (F n))(b:∀W,Below w.heap.size w W->∃n,W=F n)(h:Calls Tryz.prog f args (F n) (xX v (F n))):Calls Tryz.prog f args (F n) λe c=>e=.returned (.bool v)/\∃m,c=F m :=
 h.mono λe W q=>⟨q.1,b W (ud a q.2)⟩
theorem xR(s:MSt)(n:Nat)(S:Nat->Int):(s.note n S).st=s.st:=by unfold MSt.note;split<;>(try split)<;>rfl
theorem uar(s:MSt)(n:Nat)(S:Nat->Int):(s.note n S).log=s.log:=by unfold MSt.note;split<;>(try split)<;>rfl
theorem ubX(s:MSt)(n:Nat)(S:Nat->Int):(s.note n S).done=s.done:=by unfold MSt.note;split<;>(try split)<;>rfl
theorem ujT(s:MSt)(n:Nat)(S:Nat->Int):s.nx.note n S=(s.note n S).nx:=by
 unfold MSt.note;show(if s.far<s.pos then _ else if s.pos=s.far then _ else _)=_;split
 ·rfl
 split<;>rfl
theorem MacA.kept{K L w w' b s s' d il ic most ka kc la lc}(h:MacA K L w b s d il ic most ka kc la lc)(c:Kept (λx=>x=b) w w')(g:s'.st=s.st)(f:s'.log=s.log)(i:MacC w' b s' d il ic most ka s.st.length kc la s.log.length lc):MacA K L w' b s' d il ic most ka kc la lc:=by
 refine⟨by rw[g,f];exact i,?_,?_,λx a=>Nat.lt_of_lt_of_le (h.lt x a) c.size,h.kl,h.kb,h.lb⟩
 ·rw[g];exact h.st.on (λx a=>c.block x (h.lt x (.inl a)) (λe=>h.kb (e▸a)))
 rw[f];exact h.log.on (λx a=>c.block x (h.lt x (.inr a)) (λe=>h.lb (e▸a)))
theorem um7 K L Q Q' b s x j p f il ic I most ka kc la lc w(hA:MacA K L w b s.nx f il ic most ka kc la lc)(hp:AP most s)(hx:x.kind=0)(hS:Ints Q .i64 w j x.sl x.set)(ad:x.sl<=1048576)(hI:Ints Q' .u8 w f il I)(hB:Byt il I)(an:il<=1048576)(hq:¬Q b)(ah:∀y,Q y->y<w.heap.size) :
  Calls Tryz.prog 110 #[.pointer (some ⟨b,0,none⟩),kq x j p] w (ActIs (s.act x il I most) K L b f il ic most w):=by
 have HA:=ua hA;have a:Hid (AP most s):=hp;have HS:=ua hS;have HI:=ua hI;have ai:=ua hB;have HQ:=ua hq;have ae:=ua ah;unfold kq;have HE:Hid (s.act x il I most=s.test x.sl x.set il I):=by
  show _=_;unfold MSt.act;simp only[hx];simp
 obtain⟨T,hT⟩:∃T,s.act x il I most=T:=⟨_,rfl⟩;have W:Hid (T=s.test x.sl x.set il I):=by show _=_;rw[<-hT,HE.out]
 rw[hT];clear hA hp hx hS hI hB hq ah hT HE;go_enter Tryz.func110,Tryz.ntmps110;go_wp2;have hX:=uf w (.cells #[.int .i64 x.kind,.int .i64 x.arg,.int .i64 x.to,.slice j x.sl p] 79);have x3:(w.alloc (.cells #[.int .i64 x.kind,.int .i64 x.arg,.int .i64 x.to,.slice j x.sl p] 79)).cell? ⟨w.heap.size,3,none⟩=some (.slice j x.sl p):=cN w.heap.size rfl rfl;generalize w.alloc (.cells #[.int .i64 x.kind,.int .i64 x.arg,.int .i64 x.to,.slice j x.sl p] 79)=X at *;have Y:=ua hX;have R:=ua (HA.later hX);have av:=ub x3;have am:=ua x3;obtain⟨ι,ap,F,N,ac⟩:=jz X;have f3:∀n,(F n).cell? ⟨b,3,none⟩=some (.int .i64 (s.pos:Int)):=λn=>uc R.c.c3 (N n)
 have f0:∀n,(F n).cell? ⟨b,0,none⟩=some (.slice f il ic):=λn=>uc R.c.c0 (N n)
 have g3:∀n,(F n).cell? ⟨w.heap.size,3,none⟩=some (.slice j x.sl p):=λn=>uc x3 (N n)
 have HC:=ua (ac _ (Below.refl _ X).drew);have G:=ua N;have HF':=ua ac;clear N ac hX x3;by_cases Z:s.pos<il
 ·have aq:s.pos<=1048576:=by omega
  obtain⟨m,o,rfl,ao,af⟩:=HI.resolve_left (by omega);have i0:∀n,(F n).cell? ⟨m,o+s.pos,none⟩=some (.int .u8 (I s.pos)):=λn=>uc (uc (af s.pos Z) Y) (G n)
  have aj:=ai s.pos Z;have hlt':(s.pos:Int)<(il:Int):=by omega
  obtain⟨u,hu⟩:=nm (I s.pos);rw[hu]at aj i0;have HU:Hid (I s.pos=u):=hu;obtain⟨hh,ag⟩:=nm (vA x.sl x.set u);have U:Hid (vA x.sl x.set u=hh):=ag;clear hu ag af;refine uE F (by kernel_rfl) (by kernel_rfl) HC ?_;repeat (go_big_quiet_step (first|(go_at_call 133;exact um6 (G _) HF' (ukW Q j x.sl p x.set u _ ad ((HS.later Y).later (G _))))))
  refine wpQuiet_nil ?_;rintro _ ⟨r,rfl⟩;have E:=g3 r;have O:=G r;have g:=ua (R.later O);have S:Hid (Below w.heap.size w (F r)):=ud Y O;generalize F r=V at *;have al:=ub E;rw[U.out];cases hh with
  |true =>
   have l:Hid (T={ s with pos:=s.pos+1,at_:=s.at_+1 }):=by
    show _=_;rw[W.out];unfold MSt.test;rw[if_pos ⟨Z,by rw[HU.out];exact U.out⟩]
   have d3:V.cell? ⟨b,3,none⟩=some (.int .i64 (s.pos:Int)):=g.out.c.c3;have e3:=g.out.c.fz 3;have au:=g.out.bl;clear W U E;go_wp2;go_ret;rw[l.out];have h3:MacA K L (V.setCell ⟨b,3,none⟩ (.int .i64 ((s.pos:Int)+1))) b { s with pos:=s.pos+1,at_:=s.at_+1 } (some ⟨m,o,none⟩) il ic most ka kc la lc:=by
    have h:=g.out.put (s':={ s with pos:=s.pos+1,at_:=s.at_+1 }) ((Only.refl _ V).set b 3 (.int .i64 ((s.pos+1:Nat):Int)) rfl) rfl rfl (g.out.c.set3 (s.pos+1));rw[Int.natCast_add,Int.natCast_one]at h;exact h
   exact uiu h3 (uN (vk (Kept.of S.out) 3 _) (λy h=>.inr (.inr h))) a.out.done
  |false =>
   have H:Hid (T=(if s.inNot then s else s.note x.sl x.set).fail):=by
    show _=_;rw[W.out];unfold MSt.test;rw[if_neg (λq=>by have:=q.2;rw[HU.out,U.out]at this;cases this)]
   go_wp2_with fail;refine(qp K L b s.nx (some ⟨m,o,none⟩) il ic most ka kc la lc _ g a.len').mono ?_;rintro e V2 ⟨rfl,B⟩;rw[show s.nx.inNot=s.inNot from rfl];have z:=ua (g.later B);have k:=ua (ud S B);have y3:=uc E B;have ak:=ub y3;cases D:s.inNot with
   |true =>
    have l:Hid (T=s.fail):=(by show _=_;rw[H.out,D,if_pos rfl]);clear D;go_wp2_with fail;refine(jQ K L b s.nx (some ⟨m,o,none⟩) il ic most ka kc la lc _ z a.len' a.done a.last a.kinds).mono ?_;rintro e A d;obtain⟨C,d⟩:=d;subst C;have t:Hid (ActIs (MSt.fail s.nx) K L b (some ⟨m,o,none⟩) il ic most _ _ A):=⟨rfl,d⟩;clear d;go_wp2;go_ret;rw[l.out];exact(t.below k).fail
   |false =>
    have l:Hid (T=(s.note x.sl x.set).fail):=(by show _=_;rw[H.out,D,if_neg (by decide)]);clear D;go_wp2_with fail;refine(uhc Q b s.nx (some ⟨m,o,none⟩) il ic most ka s.st.length kc la s.log.length lc j x.sl p x.set _ z.c (HS.later k) HQ (λy hy=>Nat.lt_of_lt_of_le (ae y hy) k.size) ad).mono ?_;rintro e J i;obtain⟨v,rfl⟩:=i.val;have aa:Hid (MacA K L J b (MSt.nx (s.note x.sl x.set)) (some ⟨m,o,none⟩) il ic most ka kc la lc):=by
     have P:=i.c;rw[ujT]at P;exact z.kept i.kept (xR _ _ _) (uar _ _ _) P
    have ab:Hid (Kept (λy=>K y\/L y\/y=b) w J):=uN (yV (Kept.of k.out) i.kept) (λy h=>.inr (.inr h));clear i;go_wp2_with fail;refine(jQ K L b (MSt.nx (s.note x.sl x.set)) (some ⟨m,o,none⟩) il ic most ka kc la lc _ aa (by rw[show(MSt.nx (s.note x.sl x.set)).st=s.st from xR _ _ _];exact a.len') (by rw[show(MSt.nx (s.note x.sl x.set)).done=s.done from ubX _ _ _];exact a.done) (by rw[show(MSt.nx (s.note x.sl x.set)).st=s.st from xR _ _ _,show(MSt.nx (s.note x.sl x.set)).log=s.log from uar _ _ _];exact a.last) (by rw[show(MSt.nx (s.note x.sl x.set)).st=s.st from xR _ _ _];exact a.kinds)).mono ?_;rintro e A d;obtain⟨C,d⟩:=d;subst C;have t:Hid (ActIs (MSt.fail (MSt.nx (s.note x.sl x.set))) K L b (some ⟨m,o,none⟩) il ic most _ _ A):=⟨rfl,d⟩;clear d;go_wp2;go_ret;rw[l.out];exact(t.from_ ab).fail
 have hlt':¬(s.pos:Int)<(il:Int):=by omega
 have H:Hid (T=(if s.inNot then s else s.note x.sl x.set).fail):=by
  show _=_;rw[W.out];unfold MSt.test;rw[if_neg (λq=>Z q.1)]
 refine uE F (by kernel_rfl) (by kernel_rfl) HC ?_;repeat (go_big_quiet_step (fail))
 refine wpQuiet_nil ?_;rintro _ ⟨r,rfl⟩;have E:=g3 r;have O:=G r;have g:=ua (R.later O);have S:=ua (ud Y O);generalize F r=V at *;have al:=ub E;go_wp2_with fail;refine(qp K L b s.nx f il ic most ka kc la lc _ g a.len').mono ?_;rintro e V2 ⟨rfl,B⟩;rw[show s.nx.inNot=s.inNot from rfl];have z:=ua (g.later B);have k:=ua (ud S B);have y3:=uc E B;have ak:=ub y3;cases D:s.inNot with
 |true =>
  have l:Hid (T=s.fail):=by show _=_;rw[H.out,D,if_pos rfl]
  go_wp2_with fail;refine(jQ K L b s.nx f il ic most ka kc la lc _ z a.len' a.done a.last a.kinds).mono ?_;rintro e A d;obtain⟨C,d⟩:=d;subst C;have t:Hid (ActIs (MSt.fail s.nx) K L b f il ic most _ _ A):=⟨rfl,d⟩;go_wp2;go_ret;rw[l.out];exact(t.below k).fail
 |false =>
  have l:Hid (T=(s.note x.sl x.set).fail):=by show _=_;rw[H.out,D,if_neg (by decide)]
  go_wp2_with fail;refine(uhc Q b s.nx f il ic most ka s.st.length kc la s.log.length lc j x.sl p x.set _ z.c (HS.later k) HQ (λy hy=>Nat.lt_of_lt_of_le (ae y hy) k.size) ad).mono ?_;rintro e J i;obtain⟨v,rfl⟩:=i.val;have aa:Hid (MacA K L J b (MSt.nx (s.note x.sl x.set)) f il ic most ka kc la lc):=by
   have P:=i.c;rw[ujT]at P;exact z.kept i.kept (xR _ _ _) (uar _ _ _) P
  have ab:Hid (Kept (λy=>K y\/L y\/y=b) w J):=uN (yV (Kept.of k.out) i.kept) (λy h=>.inr (.inr h));go_wp2_with fail;refine(jQ K L b (MSt.nx (s.note x.sl x.set)) f il ic most ka kc la lc _ aa (by rw[show(MSt.nx (s.note x.sl x.set)).st=s.st from xR _ _ _];exact a.len') (by rw[show(MSt.nx (s.note x.sl x.set)).done=s.done from ubX _ _ _];exact a.done) (by rw[show(MSt.nx (s.note x.sl x.set)).st=s.st from xR _ _ _,show(MSt.nx (s.note x.sl x.set)).log=s.log from uar _ _ _];exact a.last) (by rw[show(MSt.nx (s.note x.sl x.set)).st=s.st from xR _ _ _];exact a.kinds)).mono ?_;rintro e A d;obtain⟨C,d⟩:=d;subst C;have t:Hid (ActIs (MSt.fail (MSt.nx (s.note x.sl x.set))) K L b f il ic most _ _ A):=⟨rfl,d⟩;go_wp2;go_ret;rw[l.out];exact(t.from_ ab).fail
end Go.Proofs.YtpghlcdkfldlpaaGreat
