import Derived.Test.YthicmmhmmfhncaaGreatT42
set_option linter.unusedVariables false
set_option linter.unusedSimpArgs false
namespace Go.Proofs.YthicmmhmmfhncaaGreat
section
open Go.RowKit
open M (OpD uj Gr)
theorem yg:∀(e:PE),e.ok 0→∀r,beg (kAt (e.tk++r) 0)∧kAt (e.tk++r) 0≠33∧kAt (e.tk++r) 0≠38:=by
 intro e h r;cases e with
 |ref t=>have h:t.kind=110:=h;show beg t.kind∧t.kind≠33∧t.kind≠38;rw[h];decide
 |thr c t=>have h:c.kind=94∧t.kind=110:=h;show beg c.kind∧c.kind≠33∧c.kind≠38;rw[h.1];decide
 |str t=>have h:t.kind=34:=h;show beg t.kind∧t.kind≠33∧t.kind≠38;rw[h];decide
 |cls t=>have h:t.kind=91:=h;show beg t.kind∧t.kind≠33∧t.kind≠38;rw[h];decide
 |dot t=>have h:t.kind=46:=h;show beg t.kind∧t.kind≠33∧t.kind≠38;rw[h];decide
 |grp o e c=>have h:o.kind=40∧c.kind=41∧e.ok 5:=h;show beg o.kind∧o.kind≠33∧o.kind≠38;rw[h.1];decide
 |star e t=>exact absurd h.1 (by omega)
 |opt e t=>exact absurd h.1 (by omega)
 |not t e=>exact absurd h.1 (by omega)
 |amp t e=>exact absurd h.1 (by omega)
 |emp=>exact absurd (show 4≤0 from h) (by omega)
 |seq a b=>exact absurd h.1 (by omega)
 |alt a t b=>exact absurd h.1 (by omega)
theorem ufj:∀(e:PE),e.ok 2→∀r,beg (kAt (e.tk++r) 0):=by
 intro e h r;cases e with
 |star e t=>rw[PE.tk,List.append_assoc];exact (yg e h.2.2 _).1
 |opt e t=>rw[PE.tk,List.append_assoc];exact (yg e h.2.2 _).1
 |not t e=>have h:2≤2∧t.kind=33∧e.ok 2:=h;show beg t.kind;rw[h.2.1];decide
 |amp t e=>have h:2≤2∧t.kind=38∧e.ok 2:=h;show beg t.kind;rw[h.2.1];decide
 |emp=>exact absurd (show 4≤2 from h) (by omega)
 |seq a b=>exact absurd h.1 (by omega)
 |alt a t b=>exact absurd h.1 (by omega)
 |ref t=>exact (yg _ h r).1
 |thr c t=>exact (yg _ h r).1
 |str t=>exact (yg _ h r).1
 |cls t=>exact (yg _ h r).1
 |dot t=>exact (yg _ h r).1
 |grp o e c=>exact (yg _ h r).1
def uco(r:List Tok):Prop:=kAt r 0≠42∧kAt r 0≠63
theorem umJ{r:List Tok}(h:beg (kAt r 0)):uco r:=by
 unfold beg at h;unfold uco;omega
theorem rd1(n f:Nat)(acc:PE)(l:List Tok):rd n (f+1) 1 acc l=(match rd n f 0 .emp l with | .inl p=>.inl p | .inr (e,r)=>match r with | []=>.inr (e,[]) | x::r'=>if x.kind=42 then .inr (.star e x,r') else if x.kind=63 then .inr (.opt e x,r') else .inr (e,x::r')):=by simp only[rd];rfl
theorem rd2(n f:Nat)(acc:PE)(x:Tok)(r:List Tok):rd n (f+1) 2 acc (x::r)=if x.kind=33 then (match rd n f 2 .emp r with | .inl p=>.inl p | .inr (e,r')=>.inr (.not x e,r')) else if x.kind=38 then (match rd n f 2 .emp r with | .inl p=>.inl p | .inr (e,r')=>.inr (.amp x e,r')) else rd n f 1 .emp (x::r):=by simp only[rd];rfl
theorem rd3(n f:Nat)(acc:PE)(l:List Tok):rd n (f+1) 3 acc l=if beg (kAt l 0) then (match rd n f 2 .emp l with | .inl p=>.inl p | .inr (e,r)=>rd n f 3 (.seq acc e) r) else .inr (acc,l):=by simp only[rd];rfl
theorem rd4(n f:Nat)(acc:PE)(l:List Tok):rd n (f+1) 4 acc l=if beg (kAt l 0) then (match rd n f 2 .emp l with | .inl p=>.inl p | .inr (e,r)=>rd n f 3 e r) else .inr (.emp,l):=by simp only[rd];rfl
theorem rd5(n f:Nat)(acc:PE)(l:List Tok):rd n (f+1) 5 acc l=match rd n f 4 .emp l with | .inl p=>.inl p | .inr (e,r)=>rd n f 6 e r:=by simp only[rd];rfl
theorem rd6(n f:Nat)(acc:PE)(x:Tok)(r:List Tok):rd n (f+1) 6 acc (x::r)=if x.kind=47 then (match rd n f 4 .emp r with | .inl p=>.inl p | .inr (e,r')=>rd n f 6 (.alt acc x e) r') else .inr (acc,x::r):=by simp only[rd];rfl
structure RdT(n:Nat)(e:PE):Prop where
 m0:e.ok 0→∀f r,8*(e.tk.length+r.length)+1<f→rd n f 0 .emp (e.tk++r)=.inr (e,r)
 m2:e.ok 2→∀f r,uco r→8*(e.tk.length+r.length)+3<f→rd n f 2 .emp (e.tk++r)=.inr (e,r)
 m4:e.ok 3→∀f r,uco r→8*(e.tk.length+r.length)+4<f→∃g,8*r.length+4<g∧rd n f 4 .emp (e.tk++r)=rd n g 3 e r
 m5:e.ok 5→∀f r,uco r→¬beg (kAt r 0)→8*(e.tk.length+r.length)+6<f→∃g,8*r.length+5<g∧rd n f 5 .emp (e.tk++r)=rd n g 6 e r
theorem un6{n f:Nat}{e:PE}{r:List Tok}(h:rd n f 0 .emp (e.tk++r)=.inr (e,r))(hr:uco r):rd n (f+1) 1 .emp (e.tk++r)=.inr (e,r):=by
 rw[rd1,h];cases r with
 |nil=>rfl
 |cons x r' =>
  have h1:x.kind≠42:=hr.1;have h2:x.kind≠63:=hr.2;simp only[if_neg h1,if_neg h2]
theorem ufZ{n f:Nat}{l r:List Tok}{e:PE}(h:rd n f 1 .emp l=.inr (e,r))(hb:kAt l 0≠33∧kAt l 0≠38)(hne:l≠[]):rd n (f+1) 2 .emp l=.inr (e,r):=by
 cases l with
 |nil=>exact absurd rfl hne
 |cons x l' =>
  have h1:x.kind≠33:=hb.1;have h2:x.kind≠38:=hb.2;rw[rd2,if_neg h1,if_neg h2,h]
theorem un7{n f:Nat}{e:PE}{r:List Tok}(h:rd n f 2 .emp (e.tk++r)=.inr (e,r))(hb:beg (kAt (e.tk++r) 0)):rd n (f+1) 4 .emp (e.tk++r)=rd n f 3 e r:=by
 rw[rd4,if_pos hb,h]
theorem uif:∀(e:PE),e.ok 3→0<e.tk.length:=by
 intro e;induction e with
 |seq a b iha ihb=>intro h;have:=iha h.2.1;rw[PE.tk,List.length_append];omega
 |emp=>intro h;exact absurd (show 4≤3 from h) (by omega)
 |alt a t b=>intro h;exact absurd h.1 (by omega)
 |star e t=>intro h;rw[PE.tk,List.length_append];simp
 |opt e t=>intro h;rw[PE.tk,List.length_append];simp
 |not t e=>intro h;simp[PE.tk]
 |amp t e=>intro h;simp[PE.tk]
 |ref t=>intro h;simp[PE.tk]
 |thr c t=>intro h;simp[PE.tk]
 |str t=>intro h;simp[PE.tk]
 |cls t=>intro h;simp[PE.tk]
 |dot t=>intro h;simp[PE.tk]
 |grp o e c=>intro h;simp[PE.tk]
theorem uig{e:PE}(h:e.ok 3)(r:List Tok):e.tk++r≠[]:=by
 have:=uif e h;intro q;have:=congrArg List.length q;rw[List.length_append]at this;simp only[List.length_nil]at this;omega
theorem RdT.part{n:Nat}{e:PE}(m0:e.ok 0→∀f r,8*(e.tk.length+r.length)+1<f→rd n f 0 .emp (e.tk++r)=.inr (e,r))(h2:e.ok 2)(m2:∀f r,uco r→8*(e.tk.length+r.length)+3<f→rd n f 2 .emp (e.tk++r)=.inr (e,r)):RdT n e:=by
 have m4:∀f r,uco r→8*(e.tk.length+r.length)+4<f→∃g,8*r.length+4<g∧rd n f 4 .emp (e.tk++r)=rd n g 3 e r:=fun f r hr hf=>by
  obtain⟨f,rfl⟩:∃g,f=g+1:=⟨f-1,by omega⟩
  have:=uif e (PE.ok_mono e (by omega) h2)
  exact⟨f,by omega,un7 (m2 f r hr (by omega)) (ufj e h2 r)⟩
 exact⟨m0,fun _=>m2,fun _=>m4,fun _ f r hr hb hf=>by
  obtain⟨f,rfl⟩:∃g,f=g+1:=⟨f-1,by omega⟩
  obtain⟨g,g1,g3⟩:=m4 f r hr (by omega)
  obtain⟨g,rfl⟩:∃k,g=k+1:=⟨g-1,by omega⟩
  refine⟨f,by omega,?_⟩
  rw[rd5,g3,rd3,if_neg hb]⟩
theorem RdT.prim{n:Nat}{e:PE}(h0:e.ok 0)(m0:∀f r,8*(e.tk.length+r.length)+1<f→rd n f 0 .emp (e.tk++r)=.inr (e,r)):RdT n e :=
 RdT.part (fun _=>m0) (PE.ok_mono e (by omega) h0) (fun f r hr hf=>by
  obtain⟨f,rfl⟩:∃g,f=g+1+1:=⟨f-2,by omega⟩
  exact ufZ (un6 (m0 f r (by omega)) hr) (yg e h0 r).2 (uig (PE.ok_mono e (by omega) h0) r))
theorem uha{n g:Nat}{e:PE}{r:List Tok}(h:kAt r 0≠47)(hg:0<g):rd n g 6 e r=.inr (e,r):=by
 obtain⟨g,rfl⟩:∃k,g=k+1:=⟨g-1,by omega⟩
 cases r with
 |nil=>simp only[rd]
 |cons x r' =>
  have h:x.kind≠47:=h;rw[rd6,if_neg h]
theorem ok4{e:PE}(h:e.ok 4):e=.emp∨e.ok 3:=by
 cases e with
 |emp=>exact .inl rfl
 |alt a t b=>exact absurd h.1 (by omega)
 |seq a b=>exact .inr ⟨by omega,h.2⟩
 |star e t=>exact .inr ⟨by omega,h.2⟩
 |opt e t=>exact .inr ⟨by omega,h.2⟩
 |not t e=>exact .inr ⟨by omega,h.2⟩
 |amp t e=>exact .inr ⟨by omega,h.2⟩
 |ref t=>exact .inr h
 |thr c t=>exact .inr h
 |str t=>exact .inr h
 |cls t=>exact .inr h
 |dot t=>exact .inr h
 |grp o e c=>exact .inr h
theorem un8(n:Nat):∀(e:PE),e.ok 5→RdT n e:=by
 intro e;induction e with
 |ref t =>
  intro h;refine RdT.prim h (fun f r hf=>?_)
  obtain⟨f,rfl⟩:∃g,f=g+1:=⟨f-1,by omega⟩
  have h:t.kind=110:=h;simp only[PE.tk,List.singleton_append,rd];rw[if_pos h]
 |thr c t =>
  intro h;refine RdT.prim h (fun f r hf=>?_)
  obtain⟨f,rfl⟩:∃g,f=g+1:=⟨f-1,by omega⟩
  have h:c.kind=94∧t.kind=110:=h;simp only[PE.tk,List.cons_append,List.nil_append,rd];rw[if_neg (by omega),if_neg (by omega),if_neg (by omega),if_neg (by omega),if_pos h.1,if_pos h.2]
 |str t =>
  intro h;refine RdT.prim h (fun f r hf=>?_)
  obtain⟨f,rfl⟩:∃g,f=g+1:=⟨f-1,by omega⟩
  have h:t.kind=34:=h;simp only[PE.tk,List.singleton_append,rd];rw[if_neg (by omega),if_pos h]
 |cls t =>
  intro h;refine RdT.prim h (fun f r hf=>?_)
  obtain⟨f,rfl⟩:∃g,f=g+1:=⟨f-1,by omega⟩
  have h:t.kind=91:=h;simp only[PE.tk,List.singleton_append,rd];rw[if_neg (by omega),if_neg (by omega),if_pos h]
 |dot t =>
  intro h;refine RdT.prim h (fun f r hf=>?_)
  obtain⟨f,rfl⟩:∃g,f=g+1:=⟨f-1,by omega⟩
  have h:t.kind=46:=h;simp only[PE.tk,List.singleton_append,rd];rw[if_neg (by omega),if_neg (by omega),if_neg (by omega),if_pos h]
 |grp o e c ih =>
  intro h;refine RdT.prim h (fun f r hf=>?_)
  have h:o.kind=40∧c.kind=41∧e.ok 5:=h;obtain⟨f,rfl⟩:∃g,f=g+1:=⟨f-1,by omega⟩
  rw[PE.tk,List.length_cons,List.length_append,List.length_singleton]at hf;have hk:kAt (c::r) 0=41:=h.2.1;obtain⟨g,g1,g2⟩:=(ih h.2.2).m5 h.2.2 f (c::r) (by unfold uco;rw[hk];omega) (by rw[hk];decide) (by rw[List.length_cons];omega)
  simp only[PE.tk,List.cons_append,List.append_assoc,List.nil_append,rd];rw[if_neg (by omega),if_neg (by omega),if_neg (by omega),if_neg (by omega),if_neg (by omega),if_pos h.1,g2,uha (by rw[hk];omega) (by omega)]
  simp only;rw[if_pos h.2.1]
 |star e t ih =>
  intro h;have h:1≤5∧t.kind=42∧e.ok 0:=h;have ho:(PE.star e t).ok 2:=show 1≤2∧t.kind=42∧e.ok 0 from ⟨by omega,h.2⟩
  refine RdT.part (fun q=>absurd (show 1≤0 from q.1) (by omega)) ho (fun f r hr hf=>?_)
  rw[PE.tk,List.length_append,List.length_singleton]at hf;obtain⟨f,rfl⟩:∃g,f=g+1+1:=⟨f-2,by omega⟩
  rw[PE.tk,List.append_assoc,List.singleton_append];refine ufZ ?_ (yg e h.2.2 _).2 (uig (PE.ok_mono e (by omega) h.2.2) _)
  rw[rd1,(ih (PE.ok_mono e (by omega) h.2.2)).m0 h.2.2 f (t::r) (by rw[List.length_cons];omega)]
  simp only;rw[if_pos h.2.1]
 |opt e t ih =>
  intro h;have h:1≤5∧t.kind=63∧e.ok 0:=h;have ho:(PE.opt e t).ok 2:=show 1≤2∧t.kind=63∧e.ok 0 from ⟨by omega,h.2⟩
  refine RdT.part (fun q=>absurd (show 1≤0 from q.1) (by omega)) ho (fun f r hr hf=>?_)
  rw[PE.tk,List.length_append,List.length_singleton]at hf;obtain⟨f,rfl⟩:∃g,f=g+1+1:=⟨f-2,by omega⟩
  rw[PE.tk,List.append_assoc,List.singleton_append];refine ufZ ?_ (yg e h.2.2 _).2 (uig (PE.ok_mono e (by omega) h.2.2) _)
  rw[rd1,(ih (PE.ok_mono e (by omega) h.2.2)).m0 h.2.2 f (t::r) (by rw[List.length_cons];omega)]
  simp only;rw[if_neg (by omega),if_pos h.2.1]
 |not t e ih =>
  intro h;have h:2≤5∧t.kind=33∧e.ok 2:=h;have ho:(PE.not t e).ok 2:=show 2≤2∧t.kind=33∧e.ok 2 from ⟨by omega,h.2⟩
  refine RdT.part (fun q=>absurd (show 2≤0 from q.1) (by omega)) ho (fun f r hr hf=>?_)
  rw[PE.tk,List.length_cons]at hf;obtain⟨f,rfl⟩:∃g,f=g+1:=⟨f-1,by omega⟩
  rw[PE.tk,List.cons_append,rd2,if_pos h.2.1,(ih (PE.ok_mono e (by omega) h.2.2)).m2 h.2.2 f r hr (by omega)]
 |amp t e ih =>
  intro h;have h:2≤5∧t.kind=38∧e.ok 2:=h;have ho:(PE.amp t e).ok 2:=show 2≤2∧t.kind=38∧e.ok 2 from ⟨by omega,h.2⟩
  refine RdT.part (fun q=>absurd (show 2≤0 from q.1) (by omega)) ho (fun f r hr hf=>?_)
  rw[PE.tk,List.length_cons]at hf;obtain⟨f,rfl⟩:∃g,f=g+1:=⟨f-1,by omega⟩
  rw[PE.tk,List.cons_append,rd2,if_neg (by omega),if_pos h.2.1,(ih (PE.ok_mono e (by omega) h.2.2)).m2 h.2.2 f r hr (by omega)]
 |emp =>
  intro h;refine⟨fun q=>absurd (show 4≤0 from q) (by omega),fun q=>absurd (show 4≤2 from q) (by omega),fun q=>absurd (show 4≤3 from q) (by omega),fun _ f r hr hb hf=>?_⟩
  obtain⟨f,rfl⟩:∃g,f=g+1+1:=⟨f-2,by omega⟩
  refine⟨f+1,by omega,?_⟩
  rw[PE.tk,List.nil_append,rd5,rd4,if_neg hb]
 |seq a b iha ihb =>
  intro h;have h:3≤5∧a.ok 3∧b.ok 2:=h;have hp:=uif b (PE.ok_mono b (by omega) h.2.2)
  have m4:∀f r,uco r→8*((PE.seq a b).tk.length+r.length)+4<f→∃g,8*r.length+4<g∧rd n f 4 .emp ((PE.seq a b).tk++r)=rd n g 3 (.seq a b) r:=fun f r hr hf=>by
   rw[PE.tk,List.length_append]at hf;rw[PE.tk,List.append_assoc];have hb:=ufj b h.2.2 r;obtain⟨g,g1,g2⟩:=(iha (PE.ok_mono a (by omega) h.2.1)).m4 h.2.1 f (b.tk++r) (umJ hb) (by rw[List.length_append];omega)
   rw[List.length_append]at g1;obtain⟨g,rfl⟩:∃k,g=k+1:=⟨g-1,by omega⟩
   refine⟨g,by omega,?_⟩
   rw[g2,rd3,if_pos hb,(ihb (PE.ok_mono b (by omega) h.2.2)).m2 h.2.2 g r hr (by omega)]
  refine⟨fun q=>absurd (show 3≤0 from q.1) (by omega),fun q=>absurd (show 3≤2 from q.1) (by omega),fun _=>m4,fun _ f r hr hb hf=>?_⟩
  obtain⟨f,rfl⟩:∃g,f=g+1:=⟨f-1,by omega⟩
  obtain⟨g,g1,g3⟩:=m4 f r hr (by omega)
  obtain⟨g,rfl⟩:∃k,g=k+1:=⟨g-1,by omega⟩
  refine⟨f,by omega,?_⟩
  rw[rd5,g3,rd3,if_neg hb]
 |alt a t b iha ihb =>
  intro h;have h:5≤5∧t.kind=47∧a.ok 5∧b.ok 4:=h;refine⟨fun q=>absurd (show 5≤0 from q.1) (by omega),fun q=>absurd (show 5≤2 from q.1) (by omega),fun q=>absurd (show 5≤3 from q.1) (by omega),fun _ f r hr hb hf=>?_⟩
  rw[PE.tk,List.length_append,List.length_cons]at hf;have hk:kAt (t::(b.tk++r)) 0=47:=h.2.1;obtain⟨g,g1,g2⟩:=(iha h.2.2.1).m5 h.2.2.1 f (t::(b.tk++r)) (by unfold uco;rw[hk];omega) (by rw[hk];decide) (by rw[List.length_cons,List.length_append];omega)
  rw[List.length_cons,List.length_append]at g1;obtain⟨g,rfl⟩:∃k,g=k+1:=⟨g-1,by omega⟩
  refine⟨g,by omega,?_⟩
  have e4:rd n g 4 .emp (b.tk++r)=.inr (b,r):=by
   rcases ok4 h.2.2.2 with rfl | h3
   ·obtain⟨g,rfl⟩:∃k,g=k+1:=⟨g-1,by omega⟩
    rw[PE.tk,List.nil_append,rd4,if_neg hb]
   ·obtain⟨g',h1,h2⟩:=(ihb (PE.ok_mono b (by omega) h3)).m4 h3 g r hr (by omega)
    obtain⟨g',rfl⟩:∃k,g'=k+1:=⟨g'-1,by omega⟩
    rw[h2,rd3,if_neg hb]
  rw[PE.tk,List.append_assoc,List.cons_append,g2,rd6,if_pos h.2.1,e4]
theorem un9{n f:Nat}{e:PE}(h:e.ok 5)(r:List Tok)(hr:uco r)(hb:¬beg (kAt r 0))(h47:kAt r 0≠47)(hf:8*(e.tk.length+r.length)+6<f):rd n f 5 .emp (e.tk++r)=.inr (e,r):=by
 obtain⟨g,g1,g2⟩:=(un8 n e h).m5 h f r hr hb hf;rw[g2,uha h47 (by omega)]
theorem uhb{n:Nat}{q:Rl}(h:q.ok)(r:List Tok):vH n (q.tk++r)=.inr (q,r):=by
 obtain⟨car,name,eq,body,semi⟩:=q;obtain⟨h1,h2,h3,h4,h5⟩:=h;simp only at h1 h2 h3 h4 h5;have hs:kAt (semi::r) 0=59:=h5;have hb:∀c,vR n c (name::eq::(body.tk++semi::r))=.inr (⟨c,name,eq,body,semi⟩,r):=fun c=>by
  unfold vR;simp only;rw[if_pos h2,if_pos h3,un9 h4 (semi::r) (by unfold uco;rw[hs];omega) (by rw[hs];decide) (by rw[hs];omega) (by rw[List.length_append];omega)]
  simp only;rw[if_pos h5]
 unfold vH Rl.tk;cases car with
 |none =>
  simp only[Option.toList,List.nil_append,List.cons_append,List.append_assoc];rw[if_neg (by omega)]
  exact hb none
 |some c =>
  simp only[Option.toList,List.nil_append,List.cons_append,List.append_assoc];rw[if_pos (h1 c rfl)];exact hb (some c)
theorem uqe(q:Rl)(r:List Tok):∃x l,q.tk++r=x::l:=by
 unfold Rl.tk;cases q.car with
 |none=>exact⟨_,_,rfl⟩
 |some c=>exact⟨_,_,rfl⟩
theorem uec{n:Nat}:∀(qs:List Rl) (f:Nat),(∀q∈qs,q.ok)→qs.length<f→vQ n f (qs.flatMap Rl.tk)=.inr qs
 | [],f,h,hf=>by
  obtain⟨f,rfl⟩:∃g,f=g+1:=⟨f-1,by omega⟩
  rfl
 |q::qs,f,h,hf=>by
  rw[List.length_cons]at hf;obtain⟨f,rfl⟩:∃g,f=g+1:=⟨f-1,by omega⟩
  have e:=uhb (n:=n) (h q (List.mem_cons_self ..)) (qs.flatMap Rl.tk);have i:=uec (n:=n) qs f (fun x hx=>h x (List.mem_cons_of_mem _ hx)) (by omega)
  rw[List.flatMap_cons];obtain⟨x,l,ex⟩:=uqe q (qs.flatMap Rl.tk);rw[ex]at e ⊢;rw[vQ,e];simp only;rw[i]
end
section
open Go.RowKit
open M (OpD uj Gr TX uq xP uO vS yV b1 grp)
def lvl:TX→Nat
 | .seq _ _=>3
 | .alt _ _=>5
 | .star _=>1
 | .not _=>2
 |_=>0
def uf0(z:List Int):Prop:=(∀y∈z,yv y)∧∃x r,z=x::r∧M.Letter x
def kP(rs ls:List (List Int)):TX→Prop
 | .empty=>True
 | .set n S=>M.Canon n S
 | .ref s=>bl s∈rs∧uf0 (bl s)
 | .thr s=>bl s∈ls∧uf0 (bl s)
 | .seq x y=>kP rs ls x∧kP rs ls y
 | .alt x y=>kP rs ls x∧kP rs ls y
 | .star x=>kP rs ls x
 | .not x=>kP rs ls x
def ucp(rs ls:List (List Int)):TX→List OpD
 | .empty=>uf 0 0
 | .set n S=>ui (SL n S)
 | .ref s=>uf 2 (vV (bl s) rs 0)
 | .thr s=>uf 3 (vV (bl s) ls 0)
 | .seq x y=>uw 4 (ucp rs ls x) (ucp rs ls y)
 | .alt x y=>uw 5 (ucp rs ls x) (ucp rs ls y)
 | .star x=>unD 6 (ucp rs ls x)
 | .not x=>unD 7 (ucp rs ls x)
def qy:TX→List (List Int)
 | .empty=>[]
 | .set _ _=>[]
 | .ref _=>[]
 | .thr s=>[bl s]
 | .seq x y=>qy x++qy y
 | .alt x y=>qy x++qy y
 | .star x=>qy x
 | .not x=>qy x
def RdX(t:Tx)(rs ls:List (List Int))(x:TX)(l i j:Nat):Prop :=
 ∃e:PE,tkE t i=e.tk++tkE t j∧e.ok l∧e.ops rs ls=ucp rs ls x∧(∀u∈e.refT,u.nm∈rs)∧e.thrT.map (·.nm)=qy x
def uqf(t:Tx)(rs ls:List (List Int))(x:TX):Prop:=∀i,AtB t i (bl x.text)→i+(bl x.text).length<t.n→¬yv (t.T (i+(bl x.text).length))→RdX t rs ls x (lvl x) i (i+(bl x.text).length)
def gl(c:Bool)(x:TX):Nat:=if c then 0 else lvl x
theorem upx(c:Bool)(s:ByteArray):bl (grp c s)=if c then 40::(bl s++[41]) else bl s:=by
 cases c
 ·rfl
 ·show bl (b1 40++s++b1 41)=_
  rw[vi,vi];rfl
theorem ua8{t:Tx}{rs ls:List (List Int)}{x:TX}(hx:uqf t rs ls x)(c:Bool){i:Nat}(h:AtB t i (bl (grp c x.text)))(he:i+(bl (grp c x.text)).length<t.n)(hn:¬yv (t.T (i+(bl (grp c x.text)).length))):RdX t rs ls x (gl c x) i (i+(bl (grp c x.text)).length):=by
 rw[upx]at h he hn ⊢;cases c
 ·exact hx i h he hn
 ·simp only[if_true]at h he hn ⊢
  obtain⟨a1,a2,a3⟩:=h.head;obtain⟨b1,b2⟩:=a3.app;obtain⟨c1,c2,_⟩:=b2.head;obtain⟨e,e1,e2,e3,e4,e5⟩:=hx (i+1) b1 c1 (by rw[c2];unfold yv M.Letter M.Digit;omega)
  refine⟨.grp ⟨40,i,[],[]⟩ e ⟨41,i+1+(bl x.text).length,[],[]⟩,?_,⟨rfl,rfl,PE.ok_mono e (by cases x<;>simp[lvl]) e2⟩,e3,e4,e5⟩
  rw[xK a1 a2 (by simp[kX]),e1,xK c1 c2 (by simp[kX])]
  simp only[PE.tk,List.cons_append,List.append_assoc,List.nil_append,List.length_cons,List.length_append,List.length_nil];rw[show i+1+(bl x.text).length+1=i+((bl x.text).length+(0+1)+1) by omega]
theorem sep{c:Int}(h:c=32∨c=42):¬yv c:=by
 unfold yv M.Letter M.Digit;omega
theorem SL2(S:Nat→Int):SL 2 S = [S 0,S 1]:=rfl
theorem uoa(t:Tx)(rs ls:List (List Int)):∀x:TX,kP rs ls x→uqf t rs ls x:=by
 intro x;induction x with
 |empty =>
  intro _ i h he hn;exact⟨.str ⟨34,i,[],[]⟩,ukI h,rfl,rfl,(fun u hu=>by cases hu),rfl⟩
 |set n S =>
  intro hC i h he hn;have hC:M.Canon n S:=hC;have et:bl (TX.set n S).text=bl (yV n S):=rfl;rw[et]at h he hn ⊢;unfold yV at h he hn ⊢;by_cases c1:n=2∧S 0=0∧S 1=255
  ·rw[if_pos c1]at h he hn ⊢
   obtain⟨a1,a2,_⟩:=AtB.head (x:=46) (r:=[]) h;refine⟨.dot ⟨46,i,[],[]⟩,xK a1 a2 (by simp[kX]),rfl,?_,(fun u hu=>by cases hu),rfl⟩
   show ui [0,255]=ui (SL n S);rw[c1.1,SL2,c1.2.1,c1.2.2]
  ·rw[if_neg c1]at h he hn ⊢
   by_cases c2:n=2∧S 0=S 1
   ·rw[if_pos c2]at h he hn ⊢
    have hb:=hC.2 0 (by omega)
    have e:bl (b1 34++uq (S 0)++b1 34) = [34]++bl (uq (S 0))++[34]:=by rw[vi,vi];rfl
    rw[e]at h he hn ⊢;refine⟨.str ⟨34,i,[S 0],[]⟩,?_,rfl,?_,(fun u hu=>by cases hu),rfl⟩
    ·rw[umG ⟨hb.1,hb.2.1⟩ h]
     show _::tkE t _=_::tkE t _;have el:([34]++bl (uq (S 0))++[34]).length=(bl (uq (S 0))).length+2:=by simp
     rw[el]
    ·show ui [S 0,S 0]=ui (SL n S)
     rw[c2.1,SL2,←c2.2]
   ·rw[if_neg c2]at h he hn ⊢
    exact⟨.cls ⟨91,i,[],SL n S⟩,un5 hC h,rfl,rfl,(fun u hu=>by cases hu),rfl⟩
 |ref s =>
  intro hg i h he hn;have hg:bl s∈rs∧uf0 (bl s):=hg;exact⟨.ref ⟨110,i,bl s,[]⟩,uea h hg.2.1 hg.2.2 he hn,rfl,rfl,(fun u hu=>by rw[List.mem_singleton.1 hu];exact hg.1),rfl⟩
 |thr s =>
  intro hg i h he hn;have hg:bl s∈ls∧uf0 (bl s):=hg;have e:bl (TX.thr s).text=94::bl s:=by show bl (b1 94++s)=_;rw[vi];rfl
  rw[e]at h he hn ⊢;obtain⟨a1,a2,a3⟩:=h.head;rw[List.length_cons,show i+((bl s).length+1)=i+1+(bl s).length by omega]at he hn ⊢
  refine⟨.thr ⟨94,i,[],[]⟩ ⟨110,i+1,bl s,[]⟩,?_,⟨rfl,rfl⟩,rfl,(fun u hu=>by cases hu),rfl⟩
  rw[xK a1 a2 (by simp[kX]),uea a3 hg.2.1 hg.2.2 he hn]
  rfl
 |seq x y ihx ihy =>
  intro hg i h he hn;have e:bl (TX.seq x y).text=bl (grp (x.bind<1) x.text)++32::bl (grp (y.bind<2) y.text):=by
   show bl (grp (x.bind<1) x.text++b1 32++grp (y.bind<2) y.text)=_;rw[vi,vi,List.append_assoc];rfl
  rw[e]at h he hn ⊢;obtain⟨h1,h2⟩:=h.app;obtain⟨a1,a2,a3⟩:=h2.head;rw[List.length_append,List.length_cons]at he hn ⊢;obtain⟨e1,p1,p2,p3,p4,p5⟩:=ua8 (ihx hg.1) _ h1 a1 (by rw[a2];exact sep (.inl rfl))
  rw[show i+((bl (grp (x.bind<1) x.text)).length+((bl (grp (y.bind<2) y.text)).length+1))=i+(bl (grp (x.bind<1) x.text)).length+1+(bl (grp (y.bind<2) y.text)).length by omega]at he hn ⊢
  obtain⟨e2,q1,q2,q3,q4,q5⟩:=ua8 (ihy hg.2) _ a3 he hn;refine⟨.seq e1 e2,?_,⟨by simp[lvl],PE.ok_mono e1 ?_ p2,PE.ok_mono e2 ?_ q2⟩,?_,(fun u hu=>?_),?_⟩
  ·rw[p1,ucn a1 a2,q1,PE.tk,List.append_assoc]
  ·unfold gl;cases x<;>simp[TX.bind,lvl]
  ·unfold gl;cases y<;>simp[TX.bind,lvl]
  ·show uw 4 _ _=uw 4 _ _
   rw[p3,q3]
  ·rcases List.mem_append.1 (show u∈e1.refT++e2.refT from hu) with q | q
   ·exact p4 u q
   ·exact q4 u q
  ·show (e1.thrT++e2.thrT).map (·.nm)=qy x++qy y
   rw[List.map_append,p5,q5]
 |alt x y ihx ihy =>
  intro hg i h he hn;have e:bl (TX.alt x y).text=bl x.text++32::47::32::bl (grp (y.bind<1) y.text):=by
   show bl (x.text++⟨#[32,47,32]⟩++grp (y.bind<1) y.text)=_;rw[vi,vi,List.append_assoc];rfl
  rw[e]at h he hn ⊢;obtain⟨h1,h2⟩:=h.app;obtain⟨a1,a2,a3⟩:=h2.head;obtain⟨b1,b2,b3⟩:=a3.head;obtain⟨c1,c2,c3⟩:=b3.head;rw[List.length_append,List.length_cons,List.length_cons,List.length_cons]at he hn ⊢;obtain⟨e1,p1,p2,p3,p4,p5⟩:=ihx hg.1 i h1 a1 (by rw[a2];exact sep (.inl rfl))
  rw[show i+((bl x.text).length+((bl (grp (y.bind<1) y.text)).length+1+1+1))=i+(bl x.text).length+1+1+1+(bl (grp (y.bind<1) y.text)).length by omega]at he hn ⊢
  obtain⟨e2,q1,q2,q3,q4,q5⟩:=ua8 (ihy hg.2) _ c3 he hn;refine⟨.alt e1 ⟨47,i+(bl x.text).length+1,[],[]⟩ e2,?_,⟨by simp[lvl],rfl,PE.ok_mono e1 ?_ p2,PE.ok_mono e2 ?_ q2⟩,?_,(fun u hu=>?_),?_⟩
  ·rw[p1,ucn a1 a2,xK b1 b2 (by simp[kX]),ucn c1 c2,q1,PE.tk,List.append_assoc]
   rfl
  ·cases x<;>simp[lvl]
  ·unfold gl;cases y<;>simp[TX.bind,lvl]
  ·show uw 5 _ _=uw 5 _ _
   rw[p3,q3]
  ·rcases List.mem_append.1 (show u∈e1.refT++e2.refT from hu) with q | q
   ·exact p4 u q
   ·exact q4 u q
  ·show (e1.thrT++e2.thrT).map (·.nm)=qy x++qy y
   rw[List.map_append,p5,q5]
 |star x ih =>
  intro hg i h he hn;have e:bl (TX.star x).text=bl (grp (x.bind<4) x.text)++[42]:=by
   show bl (grp (x.bind<4) x.text++b1 42)=_;rw[vi];rfl
  rw[e]at h he hn ⊢;obtain⟨h1,h2⟩:=h.app;obtain⟨a1,a2,a3⟩:=h2.head;obtain⟨e1,p1,p2,p3,p4,p5⟩:=ua8 (ih hg) _ h1 a1 (by rw[a2];exact sep (.inr rfl))
  refine⟨.star e1 ⟨42,i+(bl (grp (x.bind<4) x.text)).length,[],[]⟩,?_,⟨by simp[lvl],rfl,PE.ok_mono e1 ?_ p2⟩,?_,p4,p5⟩
  ·rw[p1,xK a1 a2 (by simp[kX]),PE.tk,List.append_assoc,List.length_append]
   rfl
  ·unfold gl;cases x<;>simp[TX.bind,lvl]
  ·show unD 6 _=unD 6 _
   rw[p3]
 |not x ih =>
  intro hg i h he hn;have e:bl (TX.not x).text=33::bl (grp (x.bind<2) x.text):=by
   show bl (b1 33++grp (x.bind<2) x.text)=_;rw[vi];rfl
  rw[e]at h he hn ⊢;obtain⟨a1,a2,a3⟩:=h.head;rw[List.length_cons,show i+((bl (grp (x.bind<2) x.text)).length+1)=i+1+(bl (grp (x.bind<2) x.text)).length by omega]at he hn ⊢
  obtain⟨e1,p1,p2,p3,p4,p5⟩:=ua8 (ih hg) _ a3 he hn;refine⟨.not ⟨33,i,[],[]⟩ e1,?_,⟨by simp[lvl],rfl,PE.ok_mono e1 ?_ p2⟩,?_,p4,p5⟩
  ·rw[xK a1 a2 (by simp[kX]),p1]
   rfl
  ·unfold gl;cases x<;>simp[TX.bind,lvl]
  ·show unD 7 _=unD 7 _
   rw[p3]
end
section
open Go.RowKit
open M (OpD uj Gr TX uq xP uO vS yV b1 grp)
def nrm(o:OpD):OpD:=if o.kind=1 then sod (SL o.sl o.set) else opd o.kind o.arg
def ucq(n:Nat)(B:Nat→OpD):List OpD:=(List.range n).map (fun i=>nrm (B i))
def uob(g:Gr)(o:OpD):List (List Int):=if o.kind=3 then [bl (vr g o.arg.toNat)] else []
def ued(g:Gr)(n:Nat)(B:Nat→OpD):List (List Int):=(List.range n).flatMap (fun i=>uob g (B i))
theorem ukJ(n:Nat)(B:Nat→OpD):ucq (n+1) B=ucq n B++[nrm (B n)]:=by
 unfold ucq;rw[List.range_succ,List.map_append];rfl
theorem ukK(g:Gr)(n:Nat)(B:Nat→OpD):ued g (n+1) B=ued g n B++uob g (B n):=by
 unfold ued;rw[List.range_succ,List.flatMap_append];simp
theorem mem_thrB{g:Gr}{n:Nat}{B:Nat→OpD}{z:List Int}:z∈ued g n B↔∃i,i<n∧(B i).kind=3∧z=bl (vr g (B i).arg.toNat):=by
 unfold ued uob;rw[List.mem_flatMap];constructor
 ·rintro⟨i,hi,hz⟩
  split at hz
  ·rename_i hk
   exact⟨i,List.mem_range.1 hi,hk,List.mem_singleton.1 hz⟩
  ·cases hz
 ·rintro⟨i,hi,hk,hz⟩
  exact⟨i,List.mem_range.2 hi,by rw[if_pos hk,hz];exact List.mem_singleton.2 rfl⟩
structure uat(g:Gr)(rs ls:List (List Int)):Prop where
 r:∀i,i<g.nr→bl (yS g i)∈rs∧uf0 (bl (yS g i))∧vV (bl (yS g i)) rs 0=i
 l:∀i,i<g.nb→bl (vr g i)∈ls∧uf0 (bl (vr g i))∧vV (bl (vr g i)) ls 0=i
section
variable {g:Gr} {rs ls:List (List Int)}
def opn(k:Int)(a b:List OpD):List OpD:=if M.ar k=2 then a++b else if M.ar k=1 then a else []
def thn(k:Int)(a b:List (List Int)):List (List Int):=if M.ar k=2 then a++b else if M.ar k=1 then a else []
theorem uee(H:uat g rs ls){o:OpD}(ho:M.ElemOK g.nr g.nb o){x y:TX}(hx:kP rs ls x)(hy:kP rs ls y) :
  ucp rs ls (uu g o x y)=opn o.kind (ucp rs ls x) (ucp rs ls y)++[nrm o]∧qy (uu g o x y)=thn o.kind (qy x) (qy y)++uob g o∧kP rs ls (uu g o x y):=by
 obtain⟨kind,sl,set,arg⟩:=o;obtain⟨h1,h2,h3,h4,h5,h6⟩:=ho;simp only at h1 h2 h3 h4 h5 h6;have hk:kind=0∨kind=1∨kind=2∨kind=3∨kind=4∨kind=5∨kind=6∨kind=7:=by omega
 rcases hk with rfl | rfl | rfl | rfl | rfl | rfl | rfl | rfl
 ·have:arg=0:=by have:arg<1:=h6;omega
  subst this;exact⟨rfl,rfl,trivial⟩
 ·have:arg=0:=by have:arg<1:=h6;omega
  subst this;exact⟨rfl,rfl,h3 rfl⟩
 ·have h6:arg<g.nr:=h6
  obtain⟨a,b,c⟩:=H.r arg.toNat (by omega)
  refine⟨?_,rfl,a,b⟩;show uf 2 (vV (bl (yS g arg.toNat)) rs 0) = [opd 2 arg];rw[c,Int.toNat_of_nonneg h5];rfl
 ·have h6:arg<g.nb:=h6
  obtain⟨a,b,c⟩:=H.l arg.toNat (by omega)
  refine⟨?_,rfl,a,b⟩;show uf 3 (vV (bl (vr g arg.toNat)) ls 0) = [opd 3 arg];rw[c,Int.toNat_of_nonneg h5];rfl
 ·have:arg=0:=by have:arg<1:=h6;omega
  subst this;exact⟨rfl,(List.append_nil _).symm,hx,hy⟩
 ·have:arg=0:=by have:arg<1:=h6;omega
  subst this;exact⟨rfl,(List.append_nil _).symm,hx,hy⟩
 ·have:arg=0:=by have:arg<1:=h6;omega
  subst this;exact⟨rfl,(List.append_nil _).symm,hx⟩
 ·have:arg=0:=by have:arg<1:=h6;omega
  subst this;exact⟨rfl,(List.append_nil _).symm,hx⟩
def flO(rs ls:List (List Int)):List (Nat×TX)→List OpD
 | []=>[]
 |p::r=>flO rs ls r++ucp rs ls p.2
def flT:List (Nat×TX)→List (List Int)
 | []=>[]
 |p::r=>flT r++qy p.2
theorem uoc(H:uat g rs ls)(B:Nat→OpD):∀n,(∀i,i<n→M.ElemOK g.nr g.nb (B i))→M.Fed B n →
  flO rs ls (M.stk (uu g) B n)=ucq n B∧flT (M.stk (uu g) B n)=ued g n B∧∀p∈M.stk (uu g) B n,kP rs ls p.2:=by
 intro n;induction n with
 |zero=>intro _ _;exact⟨rfl,rfl,fun p hp=>by cases hp⟩
 |succ n ih =>
  intro hE hF;obtain⟨e1,e2,e3⟩:=ih (fun i hi=>hE i (by omega)) (hF.less (by omega))
  have hl:=M.stk_len (uu g) B n (hF.less (by omega))
  have hi:=hF n (by omega)
  have ho:=hE n (by omega)
  have hd:kP rs ls (default:TX):=trivial;rw[ukJ,ukK,←e1,←e2,M.stk];generalize M.stk (uu g) B n=l at *;rcases M.ar_cases (B n).kind with h0 | h0 | h0
  ·obtain⟨a1,a2,a3⟩:=uee H ho hd hd
   have e:M.stp (uu g) (B n) n l=(n,uu g (B n) default default)::l:=by simp[M.stp,h0]
   rw[e];refine⟨?_,?_,fun p hp=>?_⟩
   ·rw[flO,a1];simp[opn,h0]
   ·rw[flT,a2];simp[thn,h0]
   ·rcases List.mem_cons.1 hp with rfl | q
    ·exact a3
    ·exact e3 p q
  ·rw[h0]at hi
   match l,hl,e3 with
   | [],hl,_=>simp at hl;omega
   | (s,x)::r,hl,e3 =>
    obtain⟨a1,a2,a3⟩:=uee H ho (e3 (s,x) (by simp)) hd
    have e:M.stp (uu g) (B n) n ((s,x)::r)=(s,uu g (B n) x default)::r:=by simp[M.stp,h0]
    rw[e];refine⟨?_,?_,fun p hp=>?_⟩
    ·simp only[flO];rw[a1];simp[opn,h0]
    ·simp only[flT];rw[a2];simp[thn,h0]
    ·rcases List.mem_cons.1 hp with rfl | q
     ·exact a3
     ·exact e3 p (by simp[q])
  ·rw[h0]at hi
   match l,hl,e3 with
   | [],hl,_=>simp at hl;omega
   | [p],hl,_=>simp at hl;omega
   | (s2,y)::(s,x)::r,hl,e3 =>
    obtain⟨a1,a2,a3⟩:=uee H ho (e3 (s,x) (by simp)) (e3 (s2,y) (by simp))
    have e:M.stp (uu g) (B n) n ((s2,y)::(s,x)::r)=(s,uu g (B n) x y)::r:=by simp[M.stp,h0]
    rw[e];refine⟨?_,?_,fun p hp=>?_⟩
    ·simp only[flO];rw[a1];simp[opn,h0]
    ·simp only[flT];rw[a2];simp[thn,h0]
    ·rcases List.mem_cons.1 hp with rfl | q
     ·exact a3
     ·exact e3 p (by simp[q])
theorem ucr(H:uat g rs ls){n:Nat}{B:Nat→OpD}(hB:M.BodyOK g.nr g.nb n B):ucp rs ls (vD g n B)=ucq n B∧qy (vD g n B)=ued g n B∧kP rs ls (vD g n B):=by
 obtain⟨e1,e2,e3⟩:=uoc H B n hB.1 hB.2.1;have hl:=M.stk_len (uu g) B n hB.2.1;rw[hB.2.2]at hl;unfold vD;match h:M.stk (uu g) B n,hl,e1,e2,e3 with
 | [],hl,_,_,_=>simp at hl
 | [(s,x)],_,e1,e2,e3 =>
  exact⟨by rw[←e1];simp[flO,M.top],by rw[←e2];simp[flT,M.top],e3 (s,x) (by simp)⟩
 |p::q::r,hl,_,_,_=>simp at hl;omega
end
end
section
open Go.RowKit
open M (OpD uj Gr TX uq xP uO vS yV b1 grp)
theorem umK{n:Nat}{T:Nat→Int}(h:∀i,i<n→0≤T i∧T i≤255):bl (str n T)=SL n T:=by
 unfold bl;rw[yU];unfold u8s SL;rw[List.map_map];exact List.map_congr_left (fun i hi=>u8n (h i (List.mem_range.1 hi)))
theorem uhc{n:Nat}{T:Nat→Int}(h:M.NameOK n T):∀i,i<n→0≤T i∧T i≤255:=fun i hi=>by
 have:=h.2.1 i hi;unfold M.Letter M.Digit at this;omega
theorem upy{n m:Nat}{S T:Nat→Int}(h:SL n S=SL m T):n=m∧∀i,i<n→S i=T i:=by
 have e:n=m:=by have:=congrArg List.length h;rwa [jn,jn]at this
 subst e;exact⟨rfl,fun i hi=>by have:lf (SL n S) i=lf (SL n T) i:=congrArg (fun l=>lf l i) h;rwa [ua7 hi,ua7 hi]at this⟩
theorem uov{n:Nat}{T:Nat→Int}(h:M.NameOK n T):uf0 (SL n T):=by
 refine⟨fun y hy=>?_,?_⟩
 ·obtain⟨i,hi,rfl⟩:=List.mem_map.1 hy
  exact h.2.1 i (List.mem_range.1 hi)
 ·obtain⟨m,rfl⟩:∃m,n=m+1:=⟨n-1,by have:=h.2.2.1;omega⟩
  refine⟨T 0,(List.range m).map (fun i=>T (i+1)),?_,h.2.2.2⟩
  unfold SL;rw[List.range_succ_eq_map,List.map_cons,List.map_map];rfl
theorem uef{z:List Int}:∀{l:List (List Int)} {i k:Nat},l.Nodup→l[i]? = some z→vV z l k=((k+i:Nat):Int)
 | [],i,k,_,h=>by simp at h
 |y::r,0,k,hn,h=>by
  have h:y=z:=by simpa using h
  rw[vV,if_pos h];rfl
 |y::r,i+1,k,hn,h=>by
  have h:r[i]? = some z:=by simpa using h
  rw[List.nodup_cons]at hn;rw[vV,if_neg (fun (q:y=z)=>hn.1 (by rw[q];exact List.mem_of_getElem? h)),uef hn.2 h,show k+1+i=k+(i+1) by omega]
theorem uhd{n m:Nat}{S T:Nat→Int}(h:M.LessT n S m T):ltB (SL n S) (SL m T):=by
 obtain⟨k,h0,h1,h2,h3⟩:=h;refine (udb _ _).1 ⟨k,fun i hi=>by rw[ua7 (by omega),ua7 (by omega)];exact h0 i hi,by rw[jn];exact h1,by rw[jn];exact h2,?_⟩
 rw[jn,jn];rcases h3 with⟨a,b,c⟩ | h3
 ·exact .inl ⟨a,b,by rw[ua7 a,ua7 b];exact c⟩
 ·exact .inr h3
theorem uf1:∀{l:List (List Int)},l.Pairwise ltB→Asc l
 | [],_=>trivial
 |x::r,h=>by
  rw[List.pairwise_cons]at h;exact⟨h.1,uf1 h.2⟩
def ua9(g:Gr):List (List Int):=(List.range g.nr).map (fun i=>bl (yS g i))
def jo(g:Gr):List (List Int):=(List.range g.nb).map (fun i=>bl (vr g i))
section
variable {g:Gr} (hV:M.Valid g)
include hV
theorem uba{i:Nat}(hi:i<g.nr):bl (yS g i)=SL (g.rule i).nl (g.rule i).name:=umK (uhc (hV.rn i hi))
theorem kQ{i:Nat}(hi:i<g.nb):bl (vr g i)=SL (g.lab i).nl (g.lab i).name:=umK (uhc (hV.ln i hi))
theorem uow:(ua9 g).Nodup:=by
 unfold ua9 List.Nodup;rw[List.pairwise_map];refine List.Pairwise.imp_of_mem ?_ List.pairwise_lt_range;intro i j hi hj hij e;rw[List.mem_range]at hi hj;rw[uba hV hi,uba hV hj]at e;exact hV.ru j hj i hij (upy e.symm)
theorem umL:∀d i,i+d+1<g.nb→ltB (bl (vr g i)) (bl (vr g (i+d+1)))
 |0,i,h=>by
  rw[kQ hV (by omega),kQ hV h]
  exact uhd (hV.la (i+0+1) h (by omega))
 |d+1,i,h=>by
  refine ufS (umL d i (by omega)) ?_
  rw[kQ hV (by omega),kQ hV h]
  exact uhd (hV.la (i+(d+1)+1) h (by omega))
theorem umM:(jo g).Pairwise ltB:=by
 unfold jo;rw[List.pairwise_map];refine List.Pairwise.imp_of_mem ?_ List.pairwise_lt_range;intro i j hi hj hij;rw[List.mem_range]at hj;have:=umL hV (j-i-1) i (by omega)
 rwa [show i+(j-i-1)+1=j by omega]at this
theorem uod:uat g (ua9 g) (jo g):=by
 have hr:∀i,i<g.nr→(ua9 g)[i]? = some (bl (yS g i)):=fun i hi=>by unfold ua9;rw[List.getElem?_map,List.getElem?_range hi];rfl
 have hl:∀i,i<g.nb→(jo g)[i]? = some (bl (vr g i)):=fun i hi=>by unfold jo;rw[List.getElem?_map,List.getElem?_range hi];rfl
 refine⟨fun i hi=>⟨List.mem_of_getElem? (hr i hi),?_,?_⟩,fun i hi=>⟨List.mem_of_getElem? (hl i hi),?_,?_⟩⟩
 ·rw[uba hV hi];exact uov (hV.rn i hi)
 ·rw[uef (uow hV) (hr i hi),Nat.zero_add]
 ·rw[kQ hV hi];exact uov (hV.ln i hi)
 ·rw[uef (ufE (uf1 (umM hV))) (hl i hi),Nat.zero_add]
end
structure QIs(rs ls:List (List Int))(c:Bool)(nm:ByteArray)(x:TX)(q:Rl):Prop where
 car:q.car.isSome=c
 ok:q.ok
 nm:q.name.nm=bl nm
 ops:q.body.ops rs ls=ucp rs ls x
 refs:∀u∈q.body.refT,u.nm∈rs
 thrs:q.body.thrT.map (·.nm)=qy x
theorem uoe(nm:ByteArray)(x:TX):bl (vY nm x)=bl nm++32::61::32::(bl x.text++[32,59,10]):=by
 unfold vY;rw[vi,vi,vi,List.append_assoc,List.append_assoc];rfl
theorem upz(x:TX):lvl x≤5:=by cases x<;>simp[lvl]
theorem uhe{t:Tx}{rs ls:List (List Int)}{nm:ByteArray}{x:TX}(hn:uf0 (bl nm))(hg:kP rs ls x){i:Nat}(h:AtB t i (bl (vY nm x))):∃q,QIs rs ls false nm x q∧tkE t i=q.tk++tkE t (i+(bl (vY nm x)).length):=by
 rw[uoe]at h ⊢;obtain⟨h1,h2⟩:=h.app;obtain⟨a1,a2,a3⟩:=h2.head;obtain⟨b1,b2,b3⟩:=a3.head;obtain⟨c1,c2,c3⟩:=b3.head;obtain⟨d1,d2⟩:=c3.app;obtain⟨e1,e2,e3⟩:=d2.head;obtain⟨f1,f2,f3⟩:=e3.head;obtain⟨k1,k2,_⟩:=f3.head;obtain⟨e,p1,p2,p3,p4,p5⟩:=uoa t rs ls x hg _ d1 e1 (by rw[e2];exact sep (.inl rfl))
 refine⟨⟨none,⟨110,i,bl nm,[]⟩,⟨61,i+(bl nm).length+1,[],[]⟩,e,⟨59,i+(bl nm).length+1+1+1+(bl x.text).length+1,[],[]⟩⟩,⟨rfl,⟨(fun c q=>by cases q),rfl,rfl,PE.ok_mono e (upz x) p2,rfl⟩,rfl,p3,p4,p5⟩,?_⟩
 rw[uea h1 hn.1 hn.2 a1 (by rw[a2];exact sep (.inl rfl)),ucn a1 a2,xK b1 b2 (by simp[kX]),ucn c1 c2,p1,ucn e1 e2,xK f1 f2 (by simp[kX]),umF k1 (by rw[k2];exact .inr (.inr (.inr rfl)))]
 simp only[Rl.tk,Option.toList,List.nil_append,List.cons_append,List.append_assoc,List.length_append,List.length_cons,List.length_nil];rw[show i+((bl nm).length+((bl x.text).length+(0+1+1+1)+1+1+1))=i+(bl nm).length+1+1+1+(bl x.text).length+1+1+1 by omega]
theorem uof{t:Tx}{rs ls:List (List Int)}{nm:ByteArray}{x:TX}(hn:uf0 (bl nm))(hg:kP rs ls x){i:Nat}(h:AtB t i (94::bl (vY nm x))):∃q,QIs rs ls true nm x q∧tkE t i=q.tk++tkE t (i+(94::bl (vY nm x)).length):=by
 obtain⟨a1,a2,a3⟩:=h.head;obtain⟨q,hq,e⟩:=uhe hn hg a3;obtain⟨car,name,eq,body,semi⟩:=q;obtain⟨h1,h2,h3,h4,h5,h6⟩:=hq;refine⟨⟨some ⟨94,i,[],[]⟩,name,eq,body,semi⟩,⟨rfl,⟨(fun c q=>by cases q;rfl),h2.2⟩,h3,h4,h5,h6⟩,?_⟩
 cases car with
 |some c=>cases h1
 |none =>
  rw[xK a1 a2 (by simp[kX]),e,List.length_cons,show i+((bl (vY nm x)).length+1)=i+1+(bl (vY nm x)).length by omega]
  rfl
section
variable {g:Gr} (hV:M.Valid g) {t:Tx} {rs ls:List (List Int)} (H:uat g rs ls)
include hV H
theorem ufk:∀k,k≤g.nr→AtB t 0 (bl (vO g k))→∃qs:List Rl,qs.length=k∧tkE t 0=qs.flatMap Rl.tk++tkE t (bl (vO g k)).length∧∀i,i<k→∃q,qs[i]? = some q∧QIs rs ls false (yS g i) (ui8 g i) q
 |0,hk,h=>⟨[],rfl,rfl,fun i hi=>by omega⟩
 |k+1,hk,h=>by
  rw[vO,vi]at h ⊢;obtain⟨h1,h2⟩:=h.app;obtain⟨qs,e1,e2,e3⟩:=ufk k (by omega) h1
  rw[Nat.zero_add]at h2;obtain⟨q,f1,f2⟩:=uhe (H.r k (by omega)).2.1 (ucr H (hV.rb k (by omega))).2.2 h2
  refine⟨qs++[q],by rw[List.length_append,e1];rfl,?_,fun i hi=>?_⟩
  ·rw[e2,f2,List.flatMap_append,List.flatMap_cons,List.flatMap_nil,List.append_nil,List.append_assoc,List.length_append]
   rfl
  ·by_cases c:i<k
   ·obtain⟨q',a,b⟩:=e3 i c
    exact⟨q',by rw[List.getElem?_append_left (by omega)];exact a,b⟩
   ·obtain rfl:i=k:=by omega
    exact⟨q,by rw[List.getElem?_append_right (by omega),e1];simp,f1⟩
theorem ueg:∀k,k≤g.nb→AtB t 0 (bl (vl g k))→∃ps:List Rl,tkE t (bl (vO g g.nr)).length=ps.flatMap Rl.tk++tkE t (bl (vl g k)).length∧ps.map (·.name.nm)=((List.range k).filter (fun i=>(g.lab i).has)).map (fun i=>bl (vr g i))∧(∀p∈ps,∃i,i<k∧(g.lab i).has=true∧QIs rs ls true (vr g i) (uaX g i) p)∧AtB t 0 (bl (vO g g.nr))
 |0,hk,h=>⟨[],rfl,rfl,(fun p hp=>by cases hp),h⟩
 |k+1,hk,h=>by
  rw[vl]at h ⊢;by_cases hh:(g.lab k).has=true
  ·rw[if_pos hh]at h ⊢
   have e:bl (vl g k++(b1 94++vY (vr g k) (uaX g k)))=bl (vl g k)++94::bl (vY (vr g k) (uaX g k)):=by
    rw[vi,vi];rfl
   rw[e]at h ⊢;obtain⟨h1,h2⟩:=h.app;obtain⟨ps,e1,e2,e3,e4⟩:=ueg k (by omega) h1
   rw[Nat.zero_add]at h2;obtain⟨q,f1,f2⟩:=uof (H.l k (by omega)).2.1 (ucr H (hV.lb k (by omega) hh)).2.2 h2
   refine⟨ps++[q],?_,?_,fun p hp=>?_,e4⟩
   ·rw[e1,f2,List.flatMap_append,List.flatMap_cons,List.flatMap_nil,List.append_nil,List.append_assoc,List.length_append]
    rfl
   ·rw[List.map_append,e2,List.range_succ,List.filter_append,List.map_append]
    simp[hh,f1.nm]
   ·rcases List.mem_append.1 hp with q' | q'
    ·obtain⟨i,a,b⟩:=e3 p q'
     exact⟨i,by omega,b⟩
    ·rw[List.mem_singleton.1 q']
     exact⟨k,by omega,hh,f1⟩
  ·rw[if_neg hh]at h ⊢
   obtain⟨ps,e1,e2,e3,e4⟩:=ueg k (by omega) h
   refine⟨ps,e1,?_,fun p hp=>?_,e4⟩
   ·rw[e2,List.range_succ,List.filter_append,List.map_append]
    simp[hh]
   ·obtain⟨i,a,b⟩:=e3 p hp
    exact⟨i,by omega,b⟩
end
end
section
open Go.RowKit
open M (OpD uj Gr TX)
structure uhf(a b:uj):Prop where
 nl:a.nl=b.nl
 name:∀i,i<b.nl→a.name i=b.name i
 bl:a.bl=b.bl
 body:∀i,i<b.bl→(a.body i).kind=(b.body i).kind∧(a.body i).arg=(b.body i).arg∧(a.body i).sl=(b.body i).sl∧∀j,j<(b.body i).sl→(a.body i).set j=(b.body i).set j
structure uhg(a b:Gr):Prop where
 nr:a.nr=b.nr
 nb:a.nb=b.nb
 rule:∀i,i<b.nr→uhf (a.rule i) (b.rule i)
 lab:∀i,i<b.nb→uhf (a.lab i) (b.lab i)∧(a.lab i).has=(b.lab i).has
theorem umN{nr nb:Nat}{o:OpD}(h:M.ElemOK nr nb o):(nrm o).kind=o.kind∧(nrm o).arg=o.arg∧(nrm o).sl=o.sl∧∀j,j<o.sl→(nrm o).set j=o.set j:=by
 obtain⟨h1,h2,h3,h4,h5,h6⟩:=h;unfold nrm;by_cases e:o.kind=1
 ·rw[if_pos e]
  refine⟨e.symm,?_,jn _ _,fun j hj=>ua7 hj⟩
  show 0=o.arg;unfold M.most at h6;rw[if_neg (by omega),if_neg (by omega)]at h6
  omega
 ·rw[if_neg e]
  exact⟨rfl,rfl,(h4 e).symm,fun j hj=>by have:=h4 e;omega⟩
theorem umO(n:Nat)(B:Nat→OpD):(ucq n B).length=n:=by simp[ucq]
theorem uog{n:Nat}{B:Nat→OpD}{i:Nat}(h:i<n):df (ucq n B) i=nrm (B i):=qe (by unfold ucq;rw[List.getElem?_map,List.getElem?_range h];rfl)
theorem ucs{nr nb:Nat}{x:uj}{h:Bool}(hB:∀i,i<x.bl→M.ElemOK nr nb (x.body i)):uhf (node ⟨SL x.nl x.name,h,ucq x.bl x.body⟩) x:=by
 refine⟨jn _ _,fun i hi=>ua7 hi,umO _ _,fun i hi=>?_⟩
 have e:(node ⟨SL x.nl x.name,h,ucq x.bl x.body⟩).body i=nrm (x.body i):=uog hi;rw[e];exact umN (hB i hi)
theorem umP:∀{l seen:List Rl},(∀s∈seen,∀q∈l,xS s q=false)→l.Pairwise (fun a b=>xS a b=false)→xF seen l=none
 | [],seen,_,_=>rfl
 |q::r,seen,h,hp=>by
  rw[List.pairwise_cons]at hp;rw[xF,if_neg (fun e=>by
   obtain⟨s,hs,e⟩:=List.any_eq_true.1 e;rw[h s hs q (by simp)]at e
   cases e)]
  refine umP (fun s hs x hx=>?_) hp.2
  rcases List.mem_append.1 hs with hs | hs
  ·exact h s hs x (by simp[hx])
  ·rw[List.mem_singleton.1 hs];exact hp.1 x hx
theorem uhh{ns:List (List Int)}:∀{l:List Tok},(∀t∈l,t.nm∈ns)→yY ns l=none
 | [],_=>rfl
 |x::r,h=>by rw[yY,if_pos (h x (by simp)),uhh (fun t ht=>h t (by simp[ht]))]
theorem uct{f f':Nat→Nat}:∀n,(∀i,i<n→f i=f' i)→M.sum f n=M.sum f' n
 |0,_=>rfl
 |n+1,h=>by rw[M.sum,M.sum,uct n (fun i hi=>h i (by omega)),h n (by omega)]
theorem ukL{a b:Gr}(h:uhg a b)(hV:M.Valid b):¬ud4 a:=by
 rw[ueo];refine⟨h.nr▸hV.r2,h.nb▸hV.l2,?_,fun i hi=>?_,fun i hi=>?_⟩
 ·have e:M.ops a=M.ops b:=by
   unfold M.ops;rw[h.nr,h.nb,uct _ (fun i hi=>(h.rule i hi).bl),uct _ (fun i hi=>(h.lab i hi).1.bl)]
  rw[e];exact hV.ol
 ·rw[h.nr]at hi
  rw[(h.rule i hi).nl];exact (hV.rn i hi).1
 ·rw[h.nb]at hi
  rw[(h.lab i hi).1.nl];exact (hV.ln i hi).1
theorem ucu{g:Gr}{rs ls:List (List Int)}(H:uat g rs ls){i j:Nat}(hi:i<g.nb)(hj:j<g.nb)(e:bl (vr g i)=bl (vr g j)):i=j:=by
 have h1:=(H.l i hi).2.2;have h2:=(H.l j hj).2.2;rw[e,h2]at h1;omega
theorem QIs.body{g:Gr}{rs ls:List (List Int)}(H:uat g rs ls){c:Bool}{nm:ByteArray}{n:Nat}{B:Nat→OpD}{q:Rl}(h:QIs rs ls c nm (vD g n B) q)(hB:M.BodyOK g.nr g.nb n B):q.body.ops rs ls=ucq n B∧q.body.thrT.map (·.nm)=ued g n B:=by
 obtain⟨a,b,_⟩:=ucr H hB;exact⟨h.ops.trans a,h.thrs.trans b⟩
theorem uih{g:Gr}(hV:M.Valid g){t:Tx}(hn:t.n=(uaY g).size)(hA:AtB t 0 (bl (uaY g)))(h4:t.n≤4000):∃g',PRs t 0 0 g'∧uhg g' g:=by
 have H:=uod hV;obtain⟨ps,a1,a2,a3,a4⟩:=ueg hV H g.nb (Nat.le_refl _) hA;obtain⟨qs,b1,b2,b3⟩:=ufk hV H g.nr (Nat.le_refl _) a4;have hend:tkE t (bl (vl g g.nb)).length = []:=un3 (by rw[umE];exact Nat.le_of_eq hn)
 have htk:uQ t=(qs++ps).flatMap Rl.tk:=by
  show tkE t 0=_;rw[b2,a1,hend,List.flatMap_append,List.append_nil]
 have hq:∀q∈qs,∃i,i<g.nr∧QIs (ua9 g) (jo g) false (yS g i) (ui8 g i) q:=fun q hq=>by
  obtain⟨i,hi,e⟩:=List.getElem_of_mem hq;obtain⟨q',e',h⟩:=b3 i (by omega)
  rw[List.getElem?_eq_getElem hi,e]at e';injection e' with e'
  exact⟨i,by omega,e'▸h⟩
 have hok:∀q∈qs++ps,q.ok:=fun q hm=>by
  rcases List.mem_append.1 hm with m | m
  ·obtain⟨i,_,h⟩:=hq q m;exact h.ok
  ·obtain⟨i,_,_,h⟩:=a3 q m;exact h.ok
 have hnq:qs.map (·.name.nm)=ua9 g:=by
  refine List.ext_getElem? (fun i=>?_)
  by_cases hi:i<g.nr
  ·obtain⟨q,e,h⟩:=b3 i hi
   unfold ua9;rw[List.getElem?_map,e,List.getElem?_map,List.getElem?_range hi];exact congrArg some h.nm
  ·rw[List.getElem?_eq_none (by rw[List.length_map];omega),List.getElem?_eq_none (by unfold ua9;rw[List.length_map,List.length_range];omega)]
 have cq:∀q∈qs,q.car.isSome=false:=fun q m=>by obtain⟨i,_,h⟩:=hq q m;exact h.car
 have cp:∀q∈ps,q.car.isSome=true:=fun q m=>by obtain⟨i,_,_,h⟩:=a3 q m;exact h.car
 have fq:qs.filter (fun q=>!q.car.isSome)=qs:=List.filter_eq_self.2 (fun q m=>by rw[cq q m];rfl)
 have fp:ps.filter (fun q=>!q.car.isSome) = []:=List.filter_eq_nil_iff.2 (fun q m=>by rw[cp q m];simp)
 have fq':qs.filter (fun q=>q.car.isSome) = []:=List.filter_eq_nil_iff.2 (fun q m=>by rw[cq q m];simp)
 have fp':ps.filter (fun q=>q.car.isSome)=ps:=List.filter_eq_self.2 (fun q m=>cp q m)
 have hnames:ue (qs++ps)=ua9 g:=by unfold ue;rw[List.filter_append,fq,fp,List.append_nil,hnq]
 have hrecs:uB (qs++ps)=ps.map (fun q=>q.name.nm):=by unfold uB;rw[List.filter_append,fq',fp',List.nil_append]
 have hps:∀i,i<g.nb→((g.lab i).has=true↔bl (vr g i)∈ps.map (fun q=>q.name.nm)):=fun i hi=>by
  rw[a2,List.mem_map];constructor
  ·exact fun h=>⟨i,List.mem_filter.2 ⟨List.mem_range.2 hi,h⟩,rfl⟩
  ·rintro⟨j,hj,e⟩
   obtain⟨j1,j2⟩:=List.mem_filter.1 hj;rw[ucu H (List.mem_range.1 j1) hi e]at j2;exact j2
 have lnd:(jo g).Nodup:=ufE (uf1 (umM hV));have hdup:xF [] (qs++ps)=none:=by
  refine umP (fun s hs=>by cases hs) (List.pairwise_append.2 ⟨?_,?_,fun a ha b hb=>?_⟩)
  ·have h:=uow hV
   rw[←hnq]at h;unfold List.Nodup at h;rw[List.pairwise_map]at h;refine h.imp (fun {a b} e=>?_)
   unfold xS;simp[e]
  ·have h:(ps.map (fun q=>q.name.nm)).Nodup:=by
    rw[a2];refine List.Nodup.sublist (List.Sublist.map _ (List.filter_sublist)) ?_;exact lnd
   unfold List.Nodup at h;rw[List.pairwise_map]at h;refine h.imp (fun {a b} e=>?_)
   unfold xS;simp[e]
  ·unfold xS
   rw[cq a ha,cp b hb];rfl
 have hrefs:yY (ue (qs++ps)) (yc (qs++ps))=none:=by
  rw[hnames];refine uhh (fun u hu=>?_)
  obtain⟨q,hm,hu⟩:=List.mem_flatMap.1 hu;rcases List.mem_append.1 hm with m | m
  ·obtain⟨i,_,h⟩:=hq q m;exact h.refs u hu
  ·obtain⟨i,_,_,h⟩:=a3 q m;exact h.refs u hu
 have hthr:∀z,(∃u∈vK (qs++ps),u.nm=z)↔(∃i,i<g.nr∧z∈ued g (g.rule i).bl (g.rule i).body)∨∃i,i<g.nb∧(g.lab i).has=true∧z∈ued g (g.lab i).bl (g.lab i).body:=fun z=>by
  constructor
  ·rintro⟨u,hu,rfl⟩
   obtain⟨q,hm,hu⟩:=List.mem_flatMap.1 hu;rcases List.mem_append.1 hm with m | m
   ·obtain⟨i,hi,h⟩:=hq q m
    exact .inl ⟨i,hi,by rw[←(h.body H (hV.rb i hi)).2];exact List.mem_map.2 ⟨u,hu,rfl⟩⟩
   ·obtain⟨i,hi,hh,h⟩:=a3 q m
    exact .inr ⟨i,hi,hh,by rw[←(h.body H (hV.lb i hi hh)).2];exact List.mem_map.2 ⟨u,hu,rfl⟩⟩
  ·rintro (⟨i,hi,hz⟩|⟨i,hi,hh,hz⟩)
   ·obtain⟨q,e,h⟩:=b3 i hi
    rw[←(h.body H (hV.rb i hi)).2]at hz;obtain⟨u,hu,rfl⟩:=List.mem_map.1 hz;exact⟨u,List.mem_flatMap.2 ⟨q,List.mem_append_left _ (List.mem_of_getElem? e),hu⟩,rfl⟩
   ·obtain⟨q,hm,e⟩:=List.mem_map.1 ((hps i hi).1 hh)
    obtain⟨j,hj,_,h⟩:=a3 q hm;obtain rfl:i=j:=ucu H hi hj (e.symm.trans h.nm);rw[←(h.body H (hV.lb i hi hh)).2]at hz;obtain⟨u,hu,rfl⟩:=List.mem_map.1 hz;exact⟨u,List.mem_flatMap.2 ⟨q,List.mem_append_right _ hm,hu⟩,rfl⟩
 have hin:∀{n:Nat} {B:Nat→OpD} {z:List Int},(∀i,i<n→M.ElemOK g.nr g.nb (B i))→z∈ued g n B→z∈jo g:=fun {n B z} hB hz=>by
  obtain⟨i,hi,hk,rfl⟩:=mem_thrB.1 hz;obtain⟨_,_,_,_,h5,h6⟩:=hB i hi;unfold M.most at h6;rw[if_pos hk]at h6;exact (H.l _ (by omega)).1
 have hmem:∀z,z∈jo g↔z∈uB (qs++ps)∨∃u∈vK (qs++ps),u.nm=z:=fun z=>by
  rw[hrecs,hthr];constructor
  ·intro hz
   obtain⟨i,hi,rfl⟩:=List.mem_map.1 hz;have hi:=List.mem_range.1 hi;cases hh:(g.lab i).has with
   |true=>exact .inl ((hps i hi).1 hh)
   |false =>
    right
    rcases hV.lt i hi hh with⟨j,hj,k,k1,k2,k3⟩|⟨j,hj,k,k1,k2,k3⟩
    ·exact .inl ⟨j,hj,mem_thrB.2 ⟨k,k1,k2,by rw[k3];rfl⟩⟩
    ·refine .inr ⟨j,hj,?_,mem_thrB.2 ⟨k,k1,k2,by rw[k3];rfl⟩⟩
     cases h':(g.lab j).has with
     |true=>rfl
     |false=>have:=hV.lz j hj h';omega
  ·rintro (hz | ⟨i,hi,hz⟩|⟨i,hi,hh,hz⟩)
   ·rw[a2]at hz
    obtain⟨i,hi,rfl⟩:=List.mem_map.1 hz;exact (H.l i (List.mem_range.1 (List.mem_filter.1 hi).1)).1
   ·exact hin (hV.rb i hi).1 hz
   ·exact hin (hV.lb i hi hh).1 hz
 have hT:TxH t.n (qs++ps) (jo g):=⟨hok,udA htk,hdup,hrefs,by
   rw[hnames];intro e;have:=congrArg List.length e;unfold ua9 at this;rw[List.length_map,List.length_range]at this;have:=hV.r1;simp at *;omega,uf1 (umM hV),hmem⟩
 have hrd:vQ t.n ((uQ t).length+1) (uQ t)=.inr (qs++ps):=by
  rw[htk];exact uec _ _ hok (by have:=uhE (qs++ps);omega)
 have hS:uhg (uT (jo g) (qs++ps)) g:=by
  have er:uP (ue (qs++ps)) (jo g) (qs++ps)=qs.map (qu (ua9 g) (jo g)):=by
   unfold uP;rw[List.filter_append,fq,fp,List.append_nil,hnames]
  have el:∀i,i<g.nb→(uS (ue (qs++ps)) (jo g) (qs++ps))[i]? = some (vN (ua9 g) (jo g) (qs++ps) (bl (vr g i))):=fun i hi=>by
   unfold uS;rw[List.getElem?_map,hnames];unfold jo;rw[List.getElem?_map,List.getElem?_range hi];rfl
  refine⟨?_,?_,fun i hi=>?_,fun i hi=>?_⟩
  ·show (uP (ue (qs++ps)) (jo g) (qs++ps)).length=_
   rw[er,List.length_map,b1]
  ·show (uS (ue (qs++ps)) (jo g) (qs++ps)).length=_
   unfold uS jo;rw[List.length_map,List.length_map,List.length_range]
  ·obtain⟨q,e,h⟩:=b3 i hi
   have e2:(uP (ue (qs++ps)) (jo g) (qs++ps))[i]? = some (qu (ua9 g) (jo g) q):=by rw[er,List.getElem?_map,e];rfl
   rw[qE e2];unfold qu;rw[h.nm,(h.body H (hV.rb i hi)).1,uba hV hi];exact ucs (hV.rb i hi).1
  ·rw[uaH (el i hi)]
   unfold vN;cases hf:(qs++ps).find? (fun q=>q.car.isSome&&decide (q.name.nm=bl (vr g i))) with
   |some q =>
    have h1:=List.find?_some hf;have h2:=List.mem_of_find?_eq_some hf;simp only[Bool.and_eq_true,decide_eq_true_eq]at h1;have hm:q∈ps:=by
     rcases List.mem_append.1 h2 with m | m
     ·rw[cq q m]at h1;cases h1.1
     ·exact m
    obtain⟨j,hj,hh,h⟩:=a3 q hm;obtain rfl:i=j:=ucu H hi hj (h1.2.symm.trans h.nm);simp only;rw[(h.body H (hV.lb i hi hh)).1,kQ hV hi];exact⟨ucs (hV.lb i hi hh).1,hh.symm⟩
   |none =>
    have hh:(g.lab i).has=false:=by
     cases hh:(g.lab i).has with
     |false=>rfl
     |true =>
      obtain⟨q,hm,e⟩:=List.mem_map.1 ((hps i hi).1 hh);have:=List.find?_eq_none.1 hf q (List.mem_append_right _ hm);simp[cp q hm,e]at this
    simp only;rw[kQ hV hi];have h0:=hV.lz i hi hh;have:=ucs (nr:=g.nr) (nb:=g.nb) (x:=g.lab i) (h:=false) (fun k hk=>by omega)
    have e0:ucq (g.lab i).bl (g.lab i).body = []:=by rw[h0];rfl
    rw[e0]at this;exact⟨this,hh.symm⟩
 exact⟨_,udB h4 htk hrd hT (.inl ⟨hT.valid.2 (ukL hS hV),rfl,rfl,rfl⟩),hS⟩
end
end Go.Proofs.YthicmmhmmfhncaaGreat
