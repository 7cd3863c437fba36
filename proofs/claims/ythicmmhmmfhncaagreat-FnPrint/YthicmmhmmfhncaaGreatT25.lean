import Derived.Test.YthicmmhmmfhncaaGreatT24
import Derived.Test.YthicmmhmmfhncaaGreatT08
set_option linter.unusedVariables false
set_option linter.unusedSimpArgs false
namespace Go.Proofs.YthicmmhmmfhncaaGreat
section
open Go.RowKit
open M (OpD uj Gr)
def beg(k:Int):Prop:=k=33∨k=38∨k=94∨k=46∨k=40∨k=110∨k=34∨k=91
instance (k:Int):Decidable (beg k):=by unfold beg;infer_instance
def pos(n:Nat):List Tok→Nat
 | []=>n
 |x::_=>x.at_
def rd(n:Nat):Nat→Nat→PE→List Tok→Sum Nat (PE×List Tok)
 |0,_,_,l=>.inl (pos n l)
 |f+1,0,_,l =>
  match l with
  | []=>.inl n
  |x::r =>
   if x.kind=110 then .inr (.ref x,r)
   else if x.kind=34 then .inr (.str x,r)
   else if x.kind=91 then .inr (.cls x,r)
   else if x.kind=46 then .inr (.dot x,r)
   else if x.kind=94 then
    (match r with
    | []=>.inl n
    |y::r'=>if y.kind=110 then .inr (.thr x y,r') else .inl y.at_)
   else if x.kind=40 then
    (match rd n f 5 .emp r with
    | .inl p=>.inl p
    | .inr (e,r') =>
     match r' with
     | []=>.inl n
     |y::r''=>if y.kind=41 then .inr (.grp x e y,r'') else .inl y.at_)
   else .inl x.at_
 |f+1,1,_,l =>
  match rd n f 0 .emp l with
  | .inl p=>.inl p
  | .inr (e,r) =>
   match r with
   | []=>.inr (e,[])
   |x::r'=>if x.kind=42 then .inr (.star e x,r') else if x.kind=63 then .inr (.opt e x,r') else .inr (e,x::r')
 |f+1,2,_,l =>
  match l with
  | []=>.inl n
  |x::r =>
   if x.kind=33 then (match rd n f 2 .emp r with | .inl p=>.inl p | .inr (e,r')=>.inr (.not x e,r'))
   else if x.kind=38 then (match rd n f 2 .emp r with | .inl p=>.inl p | .inr (e,r')=>.inr (.amp x e,r'))
   else rd n f 1 .emp (x::r)
 |f+1,3,acc,l =>
  if beg (kAt l 0) then (match rd n f 2 .emp l with | .inl p=>.inl p | .inr (e,r)=>rd n f 3 (.seq acc e) r) else .inr (acc,l)
 |f+1,4,_,l =>
  if beg (kAt l 0) then (match rd n f 2 .emp l with | .inl p=>.inl p | .inr (e,r)=>rd n f 3 e r) else .inr (.emp,l)
 |f+1,5,_,l =>
  match rd n f 4 .emp l with
  | .inl p=>.inl p
  | .inr (e,r)=>rd n f 6 e r
 |f+1,6,acc,l =>
  match l with
  | []=>.inr (acc,[])
  |x::r =>
   if x.kind=47 then (match rd n f 4 .emp r with | .inl p=>.inl p | .inr (e,r')=>rd n f 6 (.alt acc x e) r') else .inr (acc,x::r)
 |_+1,_+7,_,l=>.inl (pos n l)
theorem xG(n:Nat){s:Nat}(d:Nat)(h:s≠0):uC n [] s d=n:=by rw[uC,if_neg h]
theorem kb(n:Nat){x:Tok}{r:List Tok}{s d:Nat}(h:x.kind=0∨(yf s d x.kind).1=7):uC n (x::r) s d=x.at_:=by
 rw[uC];by_cases h0:x.kind=0
 ·rw[if_pos h0]
 ·rw[if_neg h0,if_pos (h.resolve_left h0)]
theorem vk(n:Nat){x:Tok}{r:List Tok}{s d s' d':Nat}(h0:x.kind≠0)(h:yf s d x.kind=(s',d'))(h7:s'≠7):uC n (x::r) s d=uC n r s' d':=by
 rw[uC,if_neg h0,h,if_neg h7]
def St(s:Nat):Prop:=s=3∨s=4∨s=6
theorem unB{s d:Nat}{k:Int}(hs:St s)(hk:k=110∨k=34∨k=91∨k=46):yf s d k=(6,d):=by
 rcases hs with rfl | rfl | rfl<;>rcases hk with rfl | rfl | rfl | rfl<;>rfl
theorem upb{s d:Nat}{k:Int}(hs:St s)(hk:k=33∨k=38):yf s d k=(4,d):=by
 rcases hs with rfl | rfl | rfl<;>rcases hk with rfl | rfl<;>rfl
theorem upc{s d:Nat}(hs:St s):yf s d 94=(5,d):=by rcases hs with rfl | rfl | rfl<;>rfl
theorem upd{s d:Nat}(hs:St s):yf s d 40=(3,d+1):=by rcases hs with rfl | rfl | rfl<;>rfl
theorem umj{d:Nat}{k:Int}(hk:k=42∨k=63):yf 6 d k=(3,d):=by rcases hk with rfl | rfl<;>rfl
theorem upe{s d:Nat}(hs:s=3∨s=6):yf s d 47=(3,d):=by rcases hs with rfl | rfl<;>rfl
theorem upf{s d:Nat}(hs:s=3∨s=6):yf s (d+1) 41=(6,d):=by rcases hs with rfl | rfl<;>simp[yf]
theorem unC{d:Nat}{k:Int}(hk:¬beg k):(yf 4 d k).1=7:=by
 unfold beg at hk;simp only[not_or]at hk;obtain⟨h1,h2,h3,h4,h5,h6,h7,h8⟩:=hk;simp[yf,h1,h2,h3,h4,h5,h6,h7,h8]
theorem unE{d:Nat}{k:Int}(hk:k≠110):(yf 5 d k).1=7:=by simp[yf,hk]
theorem umk{s d:Nat}{k:Int}(hs:s=3∨s=6)(hb:¬beg k)(h47:k≠47)(h41:k≠41)(hsuf:s=6→k≠42∧k≠63):(yf s (d+1) k).1=7:=by
 unfold beg at hb;simp only[not_or]at hb;obtain⟨h1,h2,h3,h4,h5,h6,h7,h8⟩:=hb;rcases hs with rfl | rfl
 ·simp[yf,h1,h2,h3,h4,h5,h6,h7,h8,h47,h41]
 ·obtain⟨q1,q2⟩:=hsuf rfl
  simp[yf,h1,h2,h3,h4,h5,h6,h7,h8,h47,h41,q1,q2]
def Aft(s:Nat)(r:List Tok):Prop:=(s=3∨s=6)∧(s=6→kAt r 0≠42∧kAt r 0≠63)
theorem Aft.st{s:Nat}{r:List Tok}(h:Aft s r):St s:=h.1.elim (fun q=>.inl q) (fun q=>.inr (.inr q))
def Bg(s:Nat)(l:List Tok):Prop:=St s∧(s=4∨beg (kAt l 0))
theorem st3:St 3:=.inl rfl
theorem st4:St 4:=.inr (.inl rfl)
theorem upg(r:List Tok):Aft 3 r:=⟨.inl rfl,fun q=>absurd q (by omega)⟩
def R0(n f:Nat):Prop:=∀l,kAt l 0≠33→kAt l 0≠38→8*l.length+1<f→(∀p,rd n f 0 .emp l=.inl p→∀s d,Bg s l→uC n l s d=(p:Int))∧(∀e r,rd n f 0 .emp l=.inr (e,r)→e.ok 0∧l=e.tk++r∧∀s d,Bg s l→uC n l s d=uC n r 6 d)
def R12(n m k f:Nat):Prop:=∀l,(m=1→kAt l 0≠33∧kAt l 0≠38)→8*l.length+k<f→(∀p,rd n f m .emp l=.inl p→∀s d,Bg s l→uC n l s d=(p:Int))∧(∀e r,rd n f m .emp l=.inr (e,r)→e.ok m∧l=e.tk++r∧∃s',Aft s' r∧∀s d,Bg s l→uC n l s d=uC n r s' d)
def R3(n f:Nat):Prop:=∀acc l s0,acc.ok 3→Aft s0 l→8*l.length+4<f→(∀p,rd n f 3 acc l=.inl p→∀d,uC n l s0 d=(p:Int))∧(∀e r,rd n f 3 acc l=.inr (e,r)→e.ok 3∧e.tk++r=acc.tk++l∧¬beg (kAt r 0)∧∃s',Aft s' r∧∀d,uC n l s0 d=uC n r s' d)
def R4(n f:Nat):Prop:=∀l,8*l.length+4<f→(∀p,rd n f 4 .emp l=.inl p→∀d,uC n l 3 d=(p:Int))∧(∀e r,rd n f 4 .emp l=.inr (e,r)→e.ok 4∧l=e.tk++r∧¬beg (kAt r 0)∧∃s',Aft s' r∧∀d,uC n l 3 d=uC n r s' d)
def R5(n f:Nat):Prop:=∀l,8*l.length+6<f→(∀p,rd n f 5 .emp l=.inl p→∀d,uC n l 3 d=(p:Int))∧(∀e r,rd n f 5 .emp l=.inr (e,r)→e.ok 5∧l=e.tk++r∧¬beg (kAt r 0)∧kAt r 0≠47∧∃s',Aft s' r∧∀d,uC n l 3 d=uC n r s' d)
def R6(n f:Nat):Prop:=∀acc l s0,acc.ok 5→Aft s0 l→¬beg (kAt l 0)→8*l.length+5<f→(∀p,rd n f 6 acc l=.inl p→∀d,uC n l s0 d=(p:Int))∧(∀e r,rd n f 6 acc l=.inr (e,r)→e.ok 5∧e.tk++r=acc.tk++l∧¬beg (kAt r 0)∧kAt r 0≠47∧∃s',Aft s' r∧∀d,uC n l s0 d=uC n r s' d)
theorem unF{n f:Nat}(h5:R5 n f):R0 n (f+1):=by
 intro l h33 h38 hf;cases l with
 |nil =>
  simp only[rd];exact⟨(fun p h s d hs=>by injection h with h;subst h;exact xG n d (by rcases hs.1 with rfl | rfl | rfl<;>omega)),(fun e r h=>by cases h)⟩
 |cons x r =>
  rw[List.length_cons]at hf;simp only[rd];have leaf:∀(T:PE),T.ok 0→T.tk = [x]→(x.kind=110∨x.kind=34∨x.kind=91∨x.kind=46)→(∀p,(Sum.inr (T,r):Sum Nat (PE×List Tok))=.inl p→∀s d,Bg s (x::r)→uC n (x::r) s d=(p:Int))∧(∀e r',(Sum.inr (T,r):Sum Nat (PE×List Tok))=.inr (e,r')→e.ok 0∧x::r=e.tk++r'∧∀s d,Bg s (x::r)→uC n (x::r) s d=uC n r' 6 d):=fun T h1 h2 h3 =>
   ⟨(fun p h=>by cases h),(fun e r' h=>by
    injection h with h
    injection h with ha hb
    subst ha hb;exact⟨h1,by rw[h2];rfl,fun s d hs=>vk n (by omega) (unB hs.1 h3) (by omega)⟩)⟩
  by_cases k1:x.kind=110
  ·rw[if_pos k1];exact leaf (.ref x) k1 rfl (.inl k1)
  rw[if_neg k1];by_cases k2:x.kind=34
  ·rw[if_pos k2];exact leaf (.str x) k2 rfl (.inr (.inl k2))
  rw[if_neg k2];by_cases k3:x.kind=91
  ·rw[if_pos k3];exact leaf (.cls x) k3 rfl (.inr (.inr (.inl k3)))
  rw[if_neg k3];by_cases k4:x.kind=46
  ·rw[if_pos k4];exact leaf (.dot x) k4 rfl (.inr (.inr (.inr k4)))
  rw[if_neg k4];by_cases k5:x.kind=94
  ·rw[if_pos k5]
   have st:∀s d,St s→uC n (x::r) s d=uC n r 5 d:=fun s d hs=>vk n (by omega) (by rw[k5];exact upc hs) (by omega)
   cases r with
   |nil=>exact⟨(fun p h s d hs=>by injection h with h;subst h;rw[st s d hs.1];exact xG n d (by omega)),(fun e r h=>by cases h)⟩
   |cons y r' =>
    simp only;by_cases k6:y.kind=110
    ·rw[if_pos k6]
     refine⟨(fun p h=>by cases h),fun e r2 h=>?_⟩
     injection h with h
     injection h with ha hb
     subst ha hb;exact⟨⟨k5,k6⟩,rfl,fun s d hs=>by rw[st s d hs.1];exact vk n (by omega) (by rw[k6];rfl) (by omega)⟩
    ·rw[if_neg k6]
     exact⟨(fun p h s d hs=>by injection h with h;subst h;rw[st s d hs.1];exact kb n (.inr (unE k6))),(fun e r h=>by cases h)⟩
  rw[if_neg k5];by_cases k6:x.kind=40
  ·rw[if_pos k6]
   have st:∀s d,St s→uC n (x::r) s d=uC n r 3 (d+1):=fun s d hs=>vk n (by omega) (by rw[k6];exact upd hs) (by omega)
   obtain⟨a1,a2⟩:=h5 r (by omega)
   cases hq:rd n f 5 .emp r with
   |inl p =>
    simp only;exact⟨(fun p' h s d hs=>by injection h with h;subst h;rw[st s d hs.1];exact a1 p hq _),(fun e r h=>by cases h)⟩
   |inr q =>
    obtain⟨e,r'⟩:=q;obtain⟨b1,b2,b3,b4,s',b5,b6⟩:=a2 e r' hq;simp only;cases r' with
    |nil=>exact⟨(fun p h s d hs=>by injection h with h;subst h;rw[st s d hs.1,b6];exact xG n _ (by rcases b5.1 with rfl | rfl<;>omega)),(fun e r h=>by cases h)⟩
    |cons y r2 =>
     simp only;by_cases k7:y.kind=41
     ·rw[if_pos k7]
      refine⟨(fun p h=>by cases h),fun e' r3 h=>?_⟩
      injection h with h
      injection h with ha hb
      subst ha hb;exact⟨⟨k6,k7,b1⟩,by rw[b2];simp[PE.tk],fun s d hs=>by rw[st s d hs.1,b6];exact vk n (by omega) (by rw[k7];exact upf b5.1) (by omega)⟩
     ·rw[if_neg k7]
      exact⟨(fun p h s d hs=>by injection h with h;subst h;rw[st s d hs.1,b6];exact kb n (.inr (umk b5.1 b3 b4 k7 b5.2))),(fun e r h=>by cases h)⟩
  ·rw[if_neg k6]
   refine⟨(fun p h s d hs=>?_),(fun e r h=>by cases h)⟩
   injection h with h
   subst h;obtain⟨h1,h2⟩:=hs;by_cases hb:beg x.kind
   ·rcases hb with q | q | q | q | q | q | q | q
    ·exact absurd q h33
    ·exact absurd q h38
    ·exact absurd q k5
    ·exact absurd q k4
    ·exact absurd q k6
    ·exact absurd q k1
    ·exact absurd q k2
    ·exact absurd q k3
   ·rcases h2 with rfl | h2
    ·exact kb n (.inr (unC hb))
    ·exact absurd h2 hb
theorem unG{n f:Nat}(h0:R0 n f):R12 n 1 2 (f+1):=by
 intro l hk hf;obtain⟨a1,a2⟩:=h0 l (hk rfl).1 (hk rfl).2 (by omega)
 simp only[rd];cases hq:rd n f 0 .emp l with
 |inl p=>exact⟨(fun p' h=>by injection h with h;subst h;exact a1 p hq),(fun e r h=>by cases h)⟩
 |inr q =>
  obtain⟨e,r⟩:=q;obtain⟨b1,b2,b3⟩:=a2 e r hq;simp only;cases r with
  |nil =>
   refine⟨(fun p h=>by cases h),fun e' r' h=>?_⟩
   injection h with h
   injection h with ha hb
   subst ha hb;exact⟨PE.ok_mono e (by omega) b1,b2,6,⟨.inr rfl,fun _=>⟨by show (0:Int)≠42;omega,by show (0:Int)≠63;omega⟩⟩,b3⟩
  |cons x r' =>
   simp only;by_cases k1:x.kind=42
   ·rw[if_pos k1]
    refine⟨(fun p h=>by cases h),fun e' r2 h=>?_⟩
    injection h with h
    injection h with ha hb
    subst ha hb;exact⟨⟨by omega,k1,b1⟩,by rw[b2];simp[PE.tk],3,upg _,fun s d hs=>by rw[b3 s d hs];exact vk n (by omega) (umj (.inl k1)) (by omega)⟩
   rw[if_neg k1];by_cases k2:x.kind=63
   ·rw[if_pos k2]
    refine⟨(fun p h=>by cases h),fun e' r2 h=>?_⟩
    injection h with h
    injection h with ha hb
    subst ha hb;exact⟨⟨by omega,k2,b1⟩,by rw[b2];simp[PE.tk],3,upg _,fun s d hs=>by rw[b3 s d hs];exact vk n (by omega) (umj (.inr k2)) (by omega)⟩
   ·rw[if_neg k2]
    refine⟨(fun p h=>by cases h),fun e' r2 h=>?_⟩
    injection h with h
    injection h with ha hb
    subst ha hb;exact⟨PE.ok_mono e (by omega) b1,b2,6,⟨.inr rfl,fun _=>⟨k1,k2⟩⟩,b3⟩
theorem unH{n f:Nat}(h1:R12 n 1 2 f)(h2:R12 n 2 3 f):R12 n 2 3 (f+1):=by
 intro l _ hf;cases l with
 |nil =>
  simp only[rd];exact⟨(fun p h s d hs=>by injection h with h;subst h;exact xG n d (by rcases hs.1 with rfl | rfl | rfl<;>omega)),(fun e r h=>by cases h)⟩
 |cons x r =>
  rw[List.length_cons]at hf;simp only[rd];obtain⟨a1,a2⟩:=h2 r (fun q=>absurd q (by omega)) (by omega)
  have pre:∀(T:PE→PE),(x.kind=33∨x.kind=38)→(∀e,e.ok 2→(T e).ok 2)→(∀e,(T e).tk=x::e.tk)→(∀p:Nat,(match rd n f 2 .emp r with | .inl p=>(.inl p:Sum Nat (PE×List Tok)) | .inr (e,r')=>.inr (T e,r'))=.inl p→∀s d,Bg s (x::r)→uC n (x::r) s d=(p:Int))∧(∀e r',(match rd n f 2 .emp r with | .inl p=>(.inl p:Sum Nat (PE×List Tok)) | .inr (e,r')=>.inr (T e,r'))=.inr (e,r')→e.ok 2∧x::r=e.tk++r'∧∃s',Aft s' r'∧∀s d,Bg s (x::r)→uC n (x::r) s d=uC n r' s' d):=fun T hk hT1 hT2=>by
   have st:∀s d,St s→uC n (x::r) s d=uC n r 4 d:=fun s d hs=>vk n (by omega) (upb hs hk) (by omega)
   cases hq:rd n f 2 .emp r with
   |inl p=>exact⟨(fun p' h s d hs=>by injection h with h;subst h;rw[st s d hs.1];exact a1 p hq 4 d ⟨st4,.inl rfl⟩),(fun e r h=>by cases h)⟩
   |inr q =>
    obtain⟨e,r'⟩:=q;obtain⟨b1,b2,s',b3,b4⟩:=a2 e r' hq;refine⟨(fun p h=>by cases h),fun e' r2 h=>?_⟩
    injection h with h
    injection h with ha hb
    subst ha hb;exact⟨hT1 e b1,by rw[hT2,b2];rfl,s',b3,fun s d hs=>by rw[st s d hs.1];exact b4 4 d ⟨st4,.inl rfl⟩⟩
  by_cases k1:x.kind=33
  ·rw[if_pos k1]
   exact pre (.not x) (.inl k1) (fun e h=>⟨by omega,k1,h⟩) (fun e=>rfl)
  rw[if_neg k1];by_cases k2:x.kind=38
  ·rw[if_pos k2]
   exact pre (.amp x) (.inr k2) (fun e h=>⟨by omega,k2,h⟩) (fun e=>rfl)
  rw[if_neg k2];obtain⟨b1,b2⟩:=h1 (x::r) (fun _=>⟨k1,k2⟩) (by rw[List.length_cons];omega)
  exact⟨b1,fun e r' h=>by
   obtain⟨c1,c2⟩:=b2 e r' h;exact⟨PE.ok_mono e (by omega) c1,c2⟩⟩
theorem unI{n f:Nat}(h2:R12 n 2 3 f)(h3:R3 n f):R3 n (f+1):=by
 intro acc l s0 hacc ha hf;simp only[rd];by_cases hb:beg (kAt l 0)
 ·rw[if_pos hb]
  obtain⟨a1,a2⟩:=h2 l (fun q=>absurd q (by omega)) (by omega)
  cases hq:rd n f 2 .emp l with
  |inl p=>exact⟨(fun p' h d=>by injection h with h;subst h;exact a1 p hq s0 d ⟨ha.st,.inr hb⟩),(fun e r h=>by cases h)⟩
  |inr q =>
   obtain⟨e,r⟩:=q;obtain⟨b1,b2,s',b3,b4⟩:=a2 e r hq;have hpos:=(ue8 e b1 []).2.2;have hlen:l.length=e.tk.length+r.length:=by rw[b2,List.length_append]
   obtain⟨c1,c2⟩:=h3 (.seq acc e) r s' ⟨by omega,hacc,b1⟩ b3 (by omega)
   simp only;refine⟨fun p h d=>by rw[b4 s0 d ⟨ha.st,.inr hb⟩];exact c1 p h d,fun e' r' h=>?_⟩
   obtain⟨d1,d2,d3,s2,d4,d5⟩:=c2 e' r' h;exact⟨d1,by rw[d2,b2];simp[PE.tk],d3,s2,d4,fun d=>by rw[b4 s0 d ⟨ha.st,.inr hb⟩];exact d5 d⟩
 ·rw[if_neg hb]
  refine⟨(fun p h=>by cases h),fun e r h=>?_⟩
  injection h with h
  injection h with hx hy
  subst hx hy;exact⟨hacc,rfl,hb,s0,ha,fun d=>rfl⟩
theorem unJ{n f:Nat}(h2:R12 n 2 3 f)(h3:R3 n f):R4 n (f+1):=by
 intro l hf;simp only[rd];by_cases hb:beg (kAt l 0)
 ·rw[if_pos hb]
  obtain⟨a1,a2⟩:=h2 l (fun q=>absurd q (by omega)) (by omega)
  cases hq:rd n f 2 .emp l with
  |inl p=>exact⟨(fun p' h d=>by injection h with h;subst h;exact a1 p hq 3 d ⟨st3,.inr hb⟩),(fun e r h=>by cases h)⟩
  |inr q =>
   obtain⟨e,r⟩:=q;obtain⟨b1,b2,s',b3,b4⟩:=a2 e r hq;have hpos:=(ue8 e b1 []).2.2;have hlen:l.length=e.tk.length+r.length:=by rw[b2,List.length_append]
   obtain⟨c1,c2⟩:=h3 e r s' (PE.ok_mono e (by omega) b1) b3 (by omega)
   simp only;refine⟨fun p h d=>by rw[b4 3 d ⟨st3,.inr hb⟩];exact c1 p h d,fun e' r' h=>?_⟩
   obtain⟨d1,d2,d3,s2,d4,d5⟩:=c2 e' r' h;exact⟨PE.ok_mono e' (by omega) d1,by rw[d2,b2],d3,s2,d4,fun d=>by rw[b4 3 d ⟨st3,.inr hb⟩];exact d5 d⟩
 ·rw[if_neg hb]
  refine⟨(fun p h=>by cases h),fun e r h=>?_⟩
  injection h with h
  injection h with hx hy
  subst hx hy;exact⟨Nat.le_refl 4,rfl,hb,3,upg _,fun d=>rfl⟩
theorem unK{n f:Nat}(h4:R4 n f)(h6:R6 n f):R6 n (f+1):=by
 intro acc l s0 hacc ha hnb hf;cases l with
 |nil =>
  simp only[rd];refine⟨(fun p h=>by cases h),fun e r h=>?_⟩
  injection h with h
  injection h with hx hy
  subst hx hy;exact⟨hacc,rfl,hnb,by show (0:Int)≠47;omega,s0,ha,fun d=>rfl⟩
 |cons x r =>
  rw[List.length_cons]at hf;simp only[rd];by_cases k1:x.kind=47
  ·rw[if_pos k1]
   have st:∀d,uC n (x::r) s0 d=uC n r 3 d:=fun d=>vk n (by omega) (by rw[k1];exact upe ha.1) (by omega)
   obtain⟨a1,a2⟩:=h4 r (by omega)
   cases hq:rd n f 4 .emp r with
   |inl p=>exact⟨(fun p' h d=>by injection h with h;subst h;rw[st];exact a1 p hq d),(fun e r h=>by cases h)⟩
   |inr q =>
    obtain⟨e,r'⟩:=q;obtain⟨b1,b2,b3,s',b4,b5⟩:=a2 e r' hq;have hlen:r.length=e.tk.length+r'.length:=by rw[b2,List.length_append]
    obtain⟨c1,c2⟩:=h6 (.alt acc x e) r' s' ⟨by omega,k1,hacc,b1⟩ b4 b3 (by omega)
    simp only;refine⟨fun p h d=>by rw[st,b5];exact c1 p h d,fun e' r2 h=>?_⟩
    obtain⟨d1,d2,d3,d4,s2,d5,d6⟩:=c2 e' r2 h;exact⟨d1,by rw[d2,b2];simp[PE.tk],d3,d4,s2,d5,fun d=>by rw[st,b5];exact d6 d⟩
  ·rw[if_neg k1]
   refine⟨(fun p h=>by cases h),fun e r2 h=>?_⟩
   injection h with h
   injection h with hx hy
   subst hx hy;exact⟨hacc,rfl,hnb,k1,s0,ha,fun d=>rfl⟩
theorem unL{n f:Nat}(h4:R4 n f)(h6:R6 n f):R5 n (f+1):=by
 intro l hf;simp only[rd];obtain⟨a1,a2⟩:=h4 l (by omega)
 cases hq:rd n f 4 .emp l with
 |inl p=>exact⟨(fun p' h d=>by injection h with h;subst h;exact a1 p hq d),(fun e r h=>by cases h)⟩
 |inr q =>
  obtain⟨e,r⟩:=q;obtain⟨b1,b2,b3,s',b4,b5⟩:=a2 e r hq;have hlen:l.length=e.tk.length+r.length:=by rw[b2,List.length_append]
  obtain⟨c1,c2⟩:=h6 e r s' (PE.ok_mono e (by omega) b1) b4 b3 (by omega)
  simp only;refine⟨fun p h d=>by rw[b5];exact c1 p h d,fun e' r' h=>?_⟩
  obtain⟨d1,d2,d3,d4,s2,d5,d6⟩:=c2 e' r' h;exact⟨d1,by rw[d2,b2],d3,d4,s2,d5,fun d=>by rw[b5];exact d6 d⟩
theorem uml(n:Nat):∀f,R0 n f∧R12 n 1 2 f∧R12 n 2 3 f∧R3 n f∧R4 n f∧R5 n f∧R6 n f
 |0=>⟨(fun l _ _ h=>absurd h (by omega)),(fun l _ h=>absurd h (by omega)),(fun l _ h=>absurd h (by omega)),(fun _ l _ _ _ h=>absurd h (by omega)),(fun l h=>absurd h (by omega)),(fun l h=>absurd h (by omega)),(fun _ l _ _ _ _ h=>absurd h (by omega))⟩
 |f+1=>by
  obtain⟨h0,h1,h2,h3,h4,h5,h6⟩:=uml n f;exact⟨unF h5,unG h0,unH h1 h2,unI h2 h3,unJ h2 h3,unL h4 h6,unK h4 h6⟩
end
section
open Go.RowKit
open M (OpD uj Gr)
structure Rl where
 car:Option Tok
 name:Tok
 eq:Tok
 body:PE
 semi:Tok
def Rl.tk(r:Rl):List Tok:=r.car.toList++(r.name::r.eq::(r.body.tk++[r.semi]))
def Rl.ok(r:Rl):Prop:=(∀c,r.car=some c→c.kind=94)∧r.name.kind=110∧r.eq.kind=61∧r.body.ok 5∧r.semi.kind=59
def vR(n:Nat)(car:Option Tok)(l:List Tok):Sum Nat (Rl×List Tok) :=
 match l with
 | []=>.inl n
 |x::r =>
  if x.kind=110 then
   (match r with
   | []=>.inl n
   |y::r1 =>
    if y.kind=61 then
     (match rd n (8*r1.length+8) 5 .emp r1 with
      | .inl p=>.inl p
      | .inr (e,r2) =>
       match r2 with
       | []=>.inl n
       |z::r3=>if z.kind=59 then .inr (⟨car,x,y,e,z⟩,r3) else .inl z.at_)
    else .inl y.at_)
  else .inl x.at_
def vH(n:Nat)(l:List Tok):Sum Nat (Rl×List Tok) :=
 match l with
 | []=>.inl n
 |x::r=>if x.kind=94 then vR n (some x) r else vR n none (x::r)
def vQ(n:Nat):Nat→List Tok→Sum Nat (List Rl)
 |0,l=>.inl (pos n l)
 |f+1,l =>
  match l with
  | []=>.inr []
  |x::r =>
   match vH n (x::r) with
   | .inl p=>.inl p
   | .inr (q,r') =>
    match vQ n f r' with
    | .inl p=>.inl p
    | .inr qs=>.inr (q::qs)
theorem unM{s:Nat}(hs:s=3∨s=6):yf s 0 59=(0,0):=by rcases hs with rfl | rfl<;>rfl
theorem ujX{s:Nat}{k:Int}(hs:s=3∨s=6)(hb:¬beg k)(h47:k≠47)(h59:k≠59)(hsuf:s=6→k≠42∧k≠63):(yf s 0 k).1=7:=by
 unfold beg at hb;simp only[not_or]at hb;obtain⟨h1,h2,h3,h4,h5,h6,h7,h8⟩:=hb;rcases hs with rfl | rfl
 ·simp[yf,h1,h2,h3,h4,h5,h6,h7,h8,h47,h59]
 ·obtain⟨q1,q2⟩:=hsuf rfl
  simp[yf,h1,h2,h3,h4,h5,h6,h7,h8,h47,h59,q1,q2]
theorem udV(n:Nat)(car:Option Tok)(hc:∀c,car=some c→c.kind=94)(l:List Tok)(s:Nat)(hs:s=0∨s=1)(hx:s=0→kAt l 0≠94)(hne:s=0→l≠[]) :
  (∀p,vR n car l=.inl p→uC n l s 0=(p:Int))∧(∀q r,vR n car l=.inr (q,r)→q.ok∧car.toList++l=q.tk++r∧uC n l s 0=uC n r 0 0):=by
 cases l with
 |nil =>
  have h1:s=1:=hs.resolve_left (fun q=>hne q rfl)
  exact⟨(fun p h=>by simp only[vR]at h;injection h with h;subst h;exact xG n 0 (by omega)),(fun q r h=>by simp[vR]at h)⟩
 |cons x r =>
  simp only[vR];by_cases k1:x.kind=110
  ·rw[if_pos k1]
   have st:uC n (x::r) s 0=uC n r 2 0:=vk n (by omega) (by rw[k1];rcases hs with rfl | rfl<;>rfl) (by omega)
   rw[st];cases r with
   |nil=>exact⟨(fun p h=>by injection h with h;subst h;exact xG n 0 (by omega)),(fun q r h=>by cases h)⟩
   |cons y r1 =>
    simp only;by_cases k2:y.kind=61
    ·rw[if_pos k2]
     have st2:uC n (y::r1) 2 0=uC n r1 3 0:=vk n (by omega) (by rw[k2];rfl) (by omega)
     rw[st2];obtain⟨a1,a2⟩:=(uml n (8*r1.length+8)).2.2.2.2.2.1 r1 (by omega)
     cases hq:rd n (8*r1.length+8) 5 .emp r1 with
     |inl p=>exact⟨(fun p' h=>by injection h with h;subst h;exact a1 p hq 0),(fun q r h=>by cases h)⟩
     |inr q =>
      obtain⟨e,r2⟩:=q;obtain⟨b1,b2,b3,b4,s',b5,b6⟩:=a2 e r2 hq;simp only;rw[b6 0];cases r2 with
      |nil=>exact⟨(fun p h=>by injection h with h;subst h;exact xG n 0 (by rcases b5.1 with rfl | rfl<;>omega)),(fun q r h=>by cases h)⟩
      |cons z r3 =>
       simp only;by_cases k3:z.kind=59
       ·rw[if_pos k3]
        refine⟨(fun p h=>by cases h),fun q r h=>?_⟩
        injection h with h
        injection h with ha hb
        subst ha hb;exact⟨⟨hc,k1,k2,b1,k3⟩,by rw[b2];simp[Rl.tk],vk n (by omega) (by rw[k3];exact unM b5.1) (by omega)⟩
       ·rw[if_neg k3]
        exact⟨(fun p h=>by injection h with h;subst h;exact kb n (.inr (ujX b5.1 b3 b4 k3 b5.2))),(fun q r h=>by cases h)⟩
    ·rw[if_neg k2]
     exact⟨(fun p h=>by injection h with h;subst h;exact kb n (.inr (by simp[yf,k2]))),(fun q r h=>by cases h)⟩
  ·rw[if_neg k1]
   refine⟨(fun p h=>?_),(fun q r h=>by cases h)⟩
   injection h with h
   subst h;refine kb n (.inr ?_);rcases hs with rfl | rfl
   ·have:x.kind≠94:=hx rfl
    simp[yf,k1,this]
   ·simp[yf,k1]
theorem udW(n:Nat)(l:List Tok)(hne:l≠[]) :
  (∀p,vH n l=.inl p→uC n l 0 0=(p:Int))∧(∀q r,vH n l=.inr (q,r)→q.ok∧l=q.tk++r∧uC n l 0 0=uC n r 0 0):=by
 cases l with
 |nil=>exact absurd rfl hne
 |cons x r =>
  simp only[vH];by_cases k1:x.kind=94
  ·rw[if_pos k1]
   have st:uC n (x::r) 0 0=uC n r 1 0:=vk n (by omega) (by rw[k1];rfl) (by omega)
   rw[st];exact udV n (some x) (fun c h=>by injection h with h;subst h;exact k1) r 1 (.inr rfl) (fun q=>absurd q (by omega)) (fun q=>absurd q (by omega))
  ·rw[if_neg k1]
   exact udV n none (fun c h=>by cases h) (x::r) 0 (.inl rfl) (fun _=>k1) (fun _=>hne)
theorem ue7(n:Nat):∀f l,l.length<f→(∀p,vQ n f l=.inl p→uC n l 0 0=(p:Int))∧(∀qs,vQ n f l=.inr qs→(∀q∈qs,q.ok)∧l=qs.flatMap Rl.tk∧uC n l 0 0 = -1)
 |0,l,h=>absurd h (by omega)
 |f+1,l,h=>by
  cases l with
  |nil =>
   simp only[vQ];refine⟨(fun p h=>by cases h),fun qs h=>?_⟩
   injection h with h
   subst h;exact⟨(fun q hq=>by cases hq),rfl,rfl⟩
  |cons x r =>
   simp only[vQ];obtain⟨a1,a2⟩:=udW n (x::r) (by simp)
   cases hq:vH n (x::r) with
   |inl p=>exact⟨(fun p' h=>by injection h with h;subst h;exact a1 p hq),(fun qs h=>by cases h)⟩
   |inr q =>
    obtain⟨q,r'⟩:=q;obtain⟨b1,b2,b3⟩:=a2 q r' hq;have hlen:(x::r).length=q.tk.length+r'.length:=by rw[b2,List.length_append]
    have hpos:0<q.tk.length:=by simp[Rl.tk];omega
    obtain⟨c1,c2⟩:=ue7 n f r' (by omega)
    simp only;cases hr:vQ n f r' with
    |inl p=>exact⟨(fun p' h=>by injection h with h;subst h;rw[b3];exact c1 p hr),(fun qs h=>by cases h)⟩
    |inr qs =>
     refine⟨(fun p h=>by cases h),fun qs' h=>?_⟩
     injection h with h
     subst h;obtain⟨d1,d2,d3⟩:=c2 qs hr;refine⟨fun q' hq'=>?_,by rw[b2,List.flatMap_cons,←d2],by rw[b3];exact d3⟩
     rcases List.mem_cons.1 hq' with rfl | h
     ·exact b1
     ·exact d1 q' h
end
section
open Go.RowKit
open M (OpD uj Gr)
def SmD(D:List OpD):Prop:=D.length≤1000000∧∀x∈D,x.sl≤1048576
theorem SmD.small{D:List OpD}(h:SmD D):yB D.length (df D):=by
 refine⟨Nat.le_trans h.1 (by omega),fun i hi=>?_⟩
 unfold df;rw[List.getD_eq_getElem?_getD,List.getElem?_eq_getElem hi];exact h.2 _ (List.getElem_mem hi)
end
section
open Go.RowKit
open M (OpD uj Gr)
theorem udS:∀(r:List Int) (D:List OpD),(r.foldl (fun out y=>out++ui (ur y)++[opd 4 0]) D).length=D.length+2*r.length
 | [],D=>by simp
 |y::r,D=>by
  rw[List.foldl_cons,udS r];simp[ui];omega
end
section
open Go.RowKit
open M (OpD uj Gr)
def up3(t:Tok):Prop:=BytL t.nm∧t.nm.length≤400000∧t.set.length≤1048576
end
section
open Go.RowKit
open M (OpD uj Gr)
def ltB:List Int→List Int→Prop
 |_,[]=>False
 | [],_::_=>True
 |x::r,y::s=>x<y∨(x=y∧ltB r s)
theorem uda(a:List Int):¬ltB a []:=by cases a<;>exact fun h=>h
theorem jb:∀a,¬ltB a a
 | []=>fun h=>h
 |x::r=>fun h=>h.elim (fun q=>by omega) (fun q=>jb r q.2)
theorem ufS:∀{a b c},ltB a b→ltB b c→ltB a c
 |_,[],_,h,_=>absurd h (uda _)
 |_,_::_,[],_,h=>absurd h (uda _)
 | [],_::_,_::_,_,_=>trivial
 |x::a,y::b,z::c,h,k=>by
  rcases h with h | ⟨h,h'⟩<;>rcases k with k | ⟨k,k'⟩
  ·exact .inl (by omega)
  ·exact .inl (by omega)
  ·exact .inl (by omega)
  ·exact .inr ⟨by omega,ufS h' k'⟩
theorem ufT:∀a b,ltB a b∨a=b∨ltB b a
 | [],[]=>.inr (.inl rfl)
 | [],_::_=>.inl trivial
 |_::_,[]=>.inr (.inr trivial)
 |x::a,y::b=>by
  rcases Int.lt_trichotomy x y with h | h | h
  ·exact .inl (.inl h)
  ·rcases ufT a b with k | k | k
   ·exact .inl (.inr ⟨h,k⟩)
   ·exact .inr (.inl (by rw[h,k]))
   ·exact .inr (.inr (.inr ⟨h.symm,k⟩))
  ·exact .inr (.inr (.inl h))
theorem udb:∀a b,M.LessT a.length (lf a) b.length (lf b)↔ltB a b
 |a,[]=>by
  constructor
  ·rintro⟨k,_,h1,h2,h | h⟩
   ·simp at h
   ·simp at h
  ·exact fun h=>absurd h (uda _)
 | [],y::s=>⟨fun _=>trivial,fun _=>⟨0,fun i hi=>by omega,Nat.zero_le _,Nat.zero_le _,.inr ⟨rfl,by simp⟩⟩⟩
 |x::r,y::s=>by
  constructor
  ·rintro⟨k,h0,h1,h2,h⟩
   cases k with
   |zero =>
    rcases h with⟨_,_,h⟩|⟨h,_⟩
    ·exact .inl h
    ·simp at h
   |succ k =>
    refine .inr ⟨h0 0 (by omega),(udb r s).1 ⟨k,fun i hi=>h0 (i+1) (by omega),by simpa using h1,by simpa using h2,?_⟩⟩
    rcases h with⟨a1,a2,a3⟩|⟨a1,a2⟩
    ·exact .inl ⟨by simpa using a1,by simpa using a2,a3⟩
    ·exact .inr ⟨by simpa using a1,by simpa using a2⟩
  ·rintro (h | ⟨h,h'⟩)
   ·exact⟨0,fun i hi=>by omega,Nat.zero_le _,Nat.zero_le _,.inl ⟨by simp,by simp,h⟩⟩
   ·obtain⟨k,h0,h1,h2,h3⟩:=(udb r s).2 h'
    refine⟨k+1,fun i hi=>?_,by simpa using h1,by simpa using h2,?_⟩
    ·cases i with
     |zero=>exact h
     |succ i=>exact h0 i (by omega)
    ·rcases h3 with⟨a1,a2,a3⟩|⟨a1,a2⟩
     ·exact .inl ⟨by simpa using a1,by simpa using a2,a3⟩
     ·exact .inr ⟨by simpa using a1,by simpa using a2⟩
def Asc:List (List Int)→Prop
 | []=>True
 |x::r=>(∀y∈r,ltB x y)∧Asc r
def vo:List Tok→List (List Int)
 | []=>[]
 | [_]=>[]
 |x::y::r=>(if x.kind=94 then [y.nm] else [])++vo (y::r)
def umg(q:Rl):List (List Int):=(if q.car.isSome then [q.name.nm] else [])++vo q.body.tk
def ufU(qs:List Rl):List (List Int):=qs.flatMap umg
end
section
open Go.RowKit
open M (OpD uj Gr)
structure NL where
 nm:List Int
 has:Bool
 bd:List OpD
instance:Inhabited NL:=⟨⟨[],false,[]⟩⟩
structure GC where
 d:NL
 na:Option Addr
 nc:Nat
 ba:Option Addr
 bc:Nat
def ncR(x:GC):List Value:=[.slice x.na x.d.nm.length x.nc,.slice x.ba x.d.bd.length x.bc]
def ncL(x:GC):List Value:=[.slice x.na x.d.nm.length x.nc,.bool x.d.has,.slice x.ba x.d.bd.length x.bc]
theorem ufL(x:GC):(ncR x).length=2:=rfl
theorem yW(x:GC):(ncL x).length=3:=rfl
def Tg(G:Nat→Nat)(w:World)(t:Nat):Nat→Prop:=fun b=>b<w.heap.size∧G b=t
structure GrP(w0:World)(G:Nat→Nat)(w:World)(rv lv:Value)(rs ls:List GC):Prop where
 rules:OwnC (Tg G w 0) w rv 2 rs.length (rs.flatMap ncR)
 labs:OwnC (Tg G w 1) w lv 3 ls.length (ls.flatMap ncL)
 rn:∀x∈rs,Ints (Tg G w 2) .u8 w x.na x.d.nm.length (lf x.d.nm)
 ln:∀x∈ls,Ints (Tg G w 2) .u8 w x.na x.d.nm.length (lf x.d.nm)
 rb:∀i x,rs[i]? = some x→BodP (Tg G w (4+2*i)) w (.slice x.ba x.d.bd.length x.bc) x.d.bd
 lb:∀i x,ls[i]? = some x→BodP (Tg G w (5+2*i)) w (.slice x.ba x.d.bd.length x.bc) x.d.bd
 new:∀b,G b≠3→w0.heap.size≤b
theorem uiR{G G':Nat→Nat}{w w':World}(hz:w.heap.size≤w'.heap.size)(hG:∀b,b<w.heap.size→G' b=G b)(t:Nat):∀b,Tg G w t b→Tg G' w' t b:=fun b hb=>⟨by have:=hb.1;omega,(hG b hb.1).trans hb.2⟩
def ufM(G:Nat→Nat)(w:World)(t:Nat):Nat→Nat:=fun b=>if b<w.heap.size then G b else t
theorem vW{G:Nat→Nat}{w:World}{t b:Nat}(h:b<w.heap.size):ufM G w t b=G b:=if_pos h
theorem jD{G:Nat→Nat}{w:World}{t b:Nat}(h:w.heap.size≤b):ufM G w t b=t:=if_neg (by omega)
theorem getElem?_set'{α:Type}{l:List α}{i j:Nat}{x y z:α}(hx:l[i]? = some x)(h:(l.set i y)[j]? = some z):(j=i∧z=y)∨(j≠i∧l[j]? = some z):=by
 have hi:=(List.getElem?_eq_some_iff.1 hx).1;by_cases e:j=i
 ·subst e
  rw[List.getElem?_set_self hi]at h;exact .inl ⟨rfl,(Option.some.inj h).symm⟩
 ·rw[List.getElem?_set_ne (by omega)]at h
  exact .inr ⟨e,h⟩
theorem GrP.ruleAt{w0 w:World}{G:Nat→Nat}{rv lv:Value}{rs ls:List GC}(h:GrP w0 G w rv lv rs ls){i:Nat}{x:GC}(hx:rs[i]? = some x):∃g c,rv=.slice (some ⟨g,0,none⟩) rs.length c∧Tg G w 0 g∧rs.length≤c∧w.cell? ⟨g,i*2,none⟩=some (.slice x.na x.d.nm.length x.nc)∧w.cell? ⟨g,i*2+1,none⟩=some (.slice x.ba x.d.bd.length x.bc)∧w.frozen? ⟨g,i*2,none⟩=false∧w.frozen? ⟨g,i*2+1,none⟩=false:=by
 have hi:=(List.getElem?_eq_some_iff.1 hx).1;obtain⟨g,c,e,hq,hc,hcell⟩:=h.rules.at_ (by omega)
 rw[yA ncR 2 ufL]at hcell;have h0:=hcell (i*2) (by omega)
 have h1:=hcell (i*2+1) (by omega)
 have f0:=vn ncR 2 ufL rs i 0 x hx (by omega)
 have f1:=vn ncR 2 ufL rs i 1 x hx (by omega)
 exact⟨g,c,e,hq,hc,h0.1.trans f0,h1.1.trans f1,h0.2,h1.2⟩
theorem GrP.labelAt{w0 w:World}{G:Nat→Nat}{rv lv:Value}{rs ls:List GC}(h:GrP w0 G w rv lv rs ls){i:Nat}{x:GC}(hx:ls[i]? = some x):∃g c,lv=.slice (some ⟨g,0,none⟩) ls.length c∧Tg G w 1 g∧ls.length≤c∧w.cell? ⟨g,i*3,none⟩=some (.slice x.na x.d.nm.length x.nc)∧w.cell? ⟨g,i*3+1,none⟩=some (.bool x.d.has)∧w.cell? ⟨g,i*3+2,none⟩=some (.slice x.ba x.d.bd.length x.bc)∧w.frozen? ⟨g,i*3+1,none⟩=false∧w.frozen? ⟨g,i*3+2,none⟩=false:=by
 have hi:=(List.getElem?_eq_some_iff.1 hx).1;obtain⟨g,c,e,hq,hc,hcell⟩:=h.labs.at_ (by omega)
 rw[yA ncL 3 yW]at hcell;have h0:=hcell (i*3) (by omega)
 have h1:=hcell (i*3+1) (by omega)
 have h2:=hcell (i*3+2) (by omega)
 have f0:=vn ncL 3 yW ls i 0 x hx (by omega)
 have f1:=vn ncL 3 yW ls i 1 x hx (by omega)
 have f2:=vn ncL 3 yW ls i 2 x hx (by omega)
 exact⟨g,c,e,hq,hc,h0.1.trans f0,h1.1.trans f1,h2.1.trans f2,h1.2,h2.2⟩
def node(x:NL):uj:=⟨x.nm.length,lf x.nm,x.has,x.bd.length,df x.bd⟩
def gram(rs ls:List NL):Gr:=⟨rs.length,fun i=>node (rs.getD i default),ls.length,fun i=>node (ls.getD i default)⟩
theorem ugT{l:List GC}{i:Nat}{x:GC}(h:l[i]? = some x):(l.map (·.d)).getD i default=x.d:=by rw[List.getD_eq_getElem?_getD,List.getElem?_map,h];rfl
theorem GrP.gram{w0 w:World}{G:Nat→Nat}{rv lv:Value}{rs ls:List GC}(h:GrP w0 G w rv lv rs ls):∃ra rc la lc,rv=.slice ra rs.length rc∧lv=.slice la ls.length lc∧GramX (New w0 w) w ra la (gram (rs.map (·.d)) (ls.map (·.d))):=by
 have wd:∀{t:Nat},t≠3→∀b,Tg G w t b→New w0 w b:=fun {t} ht b hb=>⟨h.new b (by rw[hb.2];exact ht),hb.1⟩
 obtain⟨ra,rc,er⟩:=um h.rules;obtain⟨la,lc,el⟩:=um h.labs;refine⟨ra,rc,la,lc,er,el,⟨?_,?_⟩⟩
 ·by_cases h0:rs.length=0
  ·exact .inl (by show (rs.map (·.d)).length=0;rw[List.length_map];exact h0)
  ·obtain⟨g,c,e,hq,hc,hcell⟩:=h.rules.at_ (by omega)
   rw[er]at e;obtain rfl:ra=some ⟨g,0,none⟩:=by injection e
   refine .inr ⟨g,0,rfl,wd (by omega) g hq,fun i hi=>?_⟩
   have hi':i<rs.length:=by
    have:i<(rs.map (·.d)).length:=hi
    rwa [List.length_map]at this
   have hx:rs[i]? = some rs[i]:=List.getElem?_eq_getElem hi';have en:(Go.Proofs.YthicmmhmmfhncaaGreat.gram (rs.map (·.d)) (ls.map (·.d))).rule i=node rs[i].d:=by show node _=_;rw[ugT hx]
   rw[en];obtain⟨g',c',e',_,_,q0,q1,_,_⟩:=h.ruleAt hx;rw[er]at e';obtain rfl:g'=g:=by injection e' with e1;injection e1 with e1;injection e1 with e1;exact e1.symm
   have hb:=h.rb i _ hx;obtain⟨_,cb,eb,hcb⟩:=hb.shape;injection eb with _ _ eb
   rw[Nat.zero_add];exact⟨⟨⟨_,_,q0,(h.rn _ (List.getElem_mem hi')).wide (wd (by omega))⟩,⟨_,_,q1,hb.ops.wide (wd (by omega))⟩⟩,⟨_,_,q1,by rw[eb];exact hcb⟩⟩
 ·by_cases h0:ls.length=0
  ·exact .inl (by show (ls.map (·.d)).length=0;rw[List.length_map];exact h0)
  ·obtain⟨g,c,e,hq,hc,hcell⟩:=h.labs.at_ (by omega)
   rw[el]at e;obtain rfl:la=some ⟨g,0,none⟩:=by injection e
   refine .inr ⟨g,0,rfl,wd (by omega) g hq,fun i hi=>?_⟩
   have hi':i<ls.length:=by
    have:i<(ls.map (·.d)).length:=hi
    rwa [List.length_map]at this
   have hx:ls[i]? = some ls[i]:=List.getElem?_eq_getElem hi';have en:(Go.Proofs.YthicmmhmmfhncaaGreat.gram (rs.map (·.d)) (ls.map (·.d))).lab i=node ls[i].d:=by show node _=_;rw[ugT hx]
   rw[en];obtain⟨g',c',e',_,_,q0,q1,q2,_,_⟩:=h.labelAt hx;rw[el]at e';obtain rfl:g'=g:=by injection e' with e1;injection e1 with e1;injection e1 with e1;exact e1.symm
   have hb:=h.lb i _ hx;obtain⟨_,cb,eb,hcb⟩:=hb.shape;injection eb with _ _ eb
   rw[Nat.zero_add];exact⟨⟨⟨_,_,q0,(h.ln _ (List.getElem_mem hi')).wide (wd (by omega))⟩,q1,⟨_,_,q2,hb.ops.wide (wd (by omega))⟩⟩,⟨_,_,q2,by rw[eb];exact hcb⟩⟩
theorem ufN(P:Nat→Prop)(w:World):BodP P w (.slice none 0 0) []:=⟨fun _=>0,[],⟨.inl ⟨rfl,rfl,rfl⟩,fun i x hx=>by simp at hx⟩,rfl⟩
end
section
open Go.RowKit
open M (OpD uj Gr)
structure TokF(n:Nat)(x:Tok):Prop where
 byt:BytL x.nm
 len:x.nm.length≤n
 set:x.set = []∨∃M,x.set=rg M 256
 cls:x.kind=91→∃M,x.set=rg M 256
 name:x.kind=110→(∀y∈x.nm,yv y)∧∃y r,x.nm=y::r∧M.Letter y
theorem ugX(t:Tx):∀(f j:Nat) (z:List Int),BytL z→(∀y∈z,yv y)→j≤t.n→BytL (vj t f j z).1∧(∀y∈(vj t f j z).1,yv y)∧(vj t f j z).1.length+j=z.length+(vj t f j z).2∧(∃r,(vj t f j z).1=z++r)
 |0,j,z,hb,hc,hj=>⟨hb,hc,rfl,[],by rw[List.append_nil];rfl⟩
 |f+1,j,z,hb,hc,hj=>by
  rw[vj];split
  ·rename_i h
   have h1:∀y∈z++[t.T j],yv y:=fun y hy=>by
    rcases List.mem_append.1 hy with q | q
    ·exact hc y q
    ·rw[List.mem_singleton.1 q];exact h.2
   have h2:BytL (z++[t.T j]):=fun y hy=>by
    rcases List.mem_append.1 hy with q | q
    ·exact hb y q
    ·rw[List.mem_singleton.1 q];exact t.byt j
   obtain⟨a1,a2,a3,r,a4⟩:=ugX t f (j+1) _ h2 h1 h.1;refine⟨a1,a2,?_,t.T j::r,by rw[a4];simp⟩
   simp at a3;omega
  ·exact⟨hb,hc,rfl,[],by rw[List.append_nil]⟩
theorem uiZ(t:Tx):∀(f j:Nat) (z:List Int) (r:List Int×Nat),BytL z→j≤t.n→qg t f j z=some r→BytL r.1∧r.1.length+j≤z.length+r.2
 |0,j,z,r,hb,hj,h=>by rw[qg]at h;cases h
 |f+1,j,z,r,hb,hj,h=>by
  rw[qg]at h;split at h
  ·injection h with h;subst h;exact⟨hb,by simp⟩
  ·split at h
   ·cases h
   ·rename_i h0
    have hr:=uaS t j false hj;obtain⟨a1,a2⟩:=uiZ t f _ _ r (fun y hy=>by
     rcases List.mem_append.1 hy with q | q
     ·exact hb y q
     ·rw[List.mem_singleton.1 q];exact⟨hr.1,hr.2.1⟩) hr.2.2 h
    refine⟨a1,?_⟩;simp at a2;omega
theorem umh(t:Tx){i:Nat}(hi:i<t.n):TokF t.n (vM t i).1∧((vM t i).1.kind≠0→(vM t i).1.nm.length+i≤(vM t i).2)∧((vM t i).1.kind=0→(vM t i).1.nm = []):=by
 have e0:BytL []:=fun y hy=>by cases hy
 have bad:TokF t.n (⟨0,i,[],[]⟩:Tok):=⟨e0,Nat.zero_le _,.inl rfl,(fun h=>absurd h (by show (0:Int)≠91;omega)),(fun h=>absurd h (by show (0:Int)≠110;omega))⟩
 unfold vM;split
 ·rename_i hl
  have h1:t.n-i=(t.n-i-1)+1:=by omega
  rw[h1,vj,if_pos ⟨hi,.inl hl⟩,List.nil_append];have hz:BytL [t.T i]:=fun y hy=>by rw[List.mem_singleton.1 hy];exact t.byt i
  have hc:∀y∈[t.T i],yv y:=fun y hy=>by rw[List.mem_singleton.1 hy];exact .inl hl
  obtain⟨a1,a2,a3,r,a4⟩:=ugX t (t.n-i-1) (i+1) [t.T i] hz hc hi;have hge:=udX t (t.n-i-1) (i+1) [t.T i] hi;simp only[List.length_singleton]at a3;refine⟨⟨a1,by first|(simp only;omega) | omega,.inl rfl,(fun h=>absurd h (by show (110:Int)≠91;omega)),fun _=>⟨a2,t.T i,r,by rw[a4];rfl,hl⟩⟩,(fun _=>by first|(simp only;omega) | omega),(fun h=>absurd h (by show (110:Int)≠0;omega))⟩
 ·rename_i hl
  split
  ·rename_i h2
   cases h:qY t i with
   |none=>exact⟨bad,(fun q=>absurd rfl q),(fun _=>rfl)⟩
   |some q =>
    obtain⟨z,j⟩:=q;have hlt:=uiX hi h;obtain⟨a1,a2⟩:=uiZ t _ _ _ _ e0 hi h;simp only[List.length_nil,Nat.zero_add]at a2 hlt;simp only;exact⟨⟨a1,by first|(simp only;omega) | omega,.inl rfl,(fun h=>absurd h (by show (34:Int)≠91;omega)),(fun h=>absurd h (by show (34:Int)≠110;omega))⟩,(fun _=>by first|(simp only;omega) | omega),(fun h=>absurd h (by show (34:Int)≠0;omega))⟩
  ·split
   ·cases h:qX t i with
    |none=>exact⟨bad,(fun q=>absurd rfl q),(fun _=>rfl)⟩
    |some q =>
     obtain⟨z,j⟩:=q;have hlt:=uiY hi h;have hz:∃M,z=rg M 256:=by
      unfold qX at h;cases hc:yJ t (t.n+2-i) (uao t i) (fun _=>false) with
      |none=>rw[hc]at h;cases h
      |some q=>rw[hc]at h;injection h with h;injection h with h1 h2;exact⟨_,h1.symm⟩
     simp only at hlt ⊢;exact⟨⟨e0,Nat.zero_le _,.inr hz,(fun _=>hz),(fun h=>absurd h (by show (91:Int)≠110;omega))⟩,(fun _=>by simp;omega),(fun h=>absurd h (by show (91:Int)≠0;omega))⟩
   ·split
    ·rename_i h2 h3 h4
     simp only;refine⟨⟨e0,Nat.zero_le _,.inl rfl,(fun h=>absurd h h3),(fun h=>?_)⟩,(fun _=>by simp),(fun _=>by trivial)⟩
     have h:t.T i=110:=h;exact absurd h4 (by rw[h];decide)
    ·simp only
     exact⟨bad,(fun q=>absurd rfl q),(fun _=>by trivial)⟩
def wtT:List Tok→Nat
 | []=>0
 |x::r=>x.nm.length+1+wtT r
theorem xV(a b:List Tok):wtT (a++b)=wtT a+wtT b:=by
 induction a with
 |nil=>simp[wtT]
 |cons x a ih=>rw[List.cons_append,wtT,wtT,ih];omega
theorem ui0(a:List Tok):a.length≤wtT a:=by
 induction a with
 |nil=>simp[wtT]
 |cons x a ih=>rw[wtT,List.length_cons];omega
theorem ugY(t:Tx):∀f i,i≤t.n→(∀x∈xi t f i,TokF t.n x)∧wtT (xi t f i)≤2*(t.n-i)
 |0,i,hi=>⟨(fun x hx=>by cases hx),Nat.zero_le _⟩
 |f+1,i,hi=>by
  rw[xi];split
  ·rename_i hlt
   obtain⟨h1,h2,h3⟩:=umh t hlt;split
   ·rename_i h0
    refine⟨fun x hx=>by rw[List.mem_singleton.1 hx];exact h1,?_⟩
    have:=h3 h0;simp[wtT,this];omega
   ·rename_i h0
    have hn:=uce t hlt h0;have hs:=qN t (vM t i).2;have hsl:=ui2 t hn.2;obtain⟨a1,a2⟩:=ugY t f (vh t (vM t i).2) hsl;have:=h2 h0;refine⟨fun x hx=>?_,?_⟩
    ·rcases List.mem_cons.1 hx with rfl | q
     ·exact h1
     ·exact a1 x q
    ·rw[wtT]
     omega
  ·exact⟨(fun x hx=>by cases hx),Nat.zero_le _⟩
theorem udU(t:Tx):(∀x∈uQ t,TokF t.n x)∧wtT (uQ t)≤2*t.n:=by
 have h:=ugY t (t.n+1) (vh t 0) (ui2 t (Nat.zero_le _));exact⟨h.1,Nat.le_trans h.2 (by omega)⟩
theorem TokF.ok{n:Nat}{x:Tok}(h:TokF n x)(hn:n≤400000):up3 x:=by
 refine⟨h.byt,Nat.le_trans h.len hn,?_⟩;rcases h.set with q | ⟨M,q⟩
 ·rw[q];exact Nat.zero_le _
 ·rw[q];exact Nat.le_trans (upt M 256) (by omega)
theorem ujV(z:List Int):(xQ z).length≤2*z.length+1:=by
 cases z with
 |nil=>simp[xQ,uf]
 |cons x r=>rw[xQ,udS];simp[ui];omega
theorem uo9(rs ls:List (List Int))(e:PE):(∀l,l≤3→e.ok l→(e.ops rs ls).length+1≤4*wtT e.tk)∧(e.ok 5→(e.ops rs ls).length≤4*wtT e.tk+1):=by
 induction e with
 |ref t=>exact⟨fun l hl h=>by simp[PE.ops,PE.tk,uf,wtT];omega,fun h=>by simp[PE.ops,PE.tk,uf,wtT]⟩
 |thr c t=>exact⟨fun l hl h=>by simp[PE.ops,PE.tk,uf,wtT];omega,fun h=>by simp[PE.ops,PE.tk,uf,wtT]⟩
 |str t=>have:=ujV t.nm;exact⟨fun l hl h=>by simp[PE.ops,PE.tk,wtT];omega,fun h=>by simp[PE.ops,PE.tk,wtT];omega⟩
 |cls t=>exact⟨fun l hl h=>by simp[PE.ops,PE.tk,ui,wtT];omega,fun h=>by simp[PE.ops,PE.tk,ui,wtT]⟩
 |dot t=>exact⟨fun l hl h=>by simp[PE.ops,PE.tk,ui,wtT];omega,fun h=>by simp[PE.ops,PE.tk,ui,wtT]⟩
 |grp o e c ih =>
  have key:e.ok 5→(e.ops rs ls).length+1≤4*wtT (PE.grp o e c).tk:=fun h=>by have:=ih.2 h;simp only[PE.tk,wtT,xV];omega
  exact⟨fun l hl h=>key h.2.2,fun h=>by have:=key h.2.2;simp only[PE.ops];omega⟩
 |star e t ih =>
  have key:e.ok 0→(unD 6 (e.ops rs ls)).length+1≤4*wtT (PE.star e t).tk:=fun h=>by have:=ih.1 0 (by omega) h;simp only[PE.tk,wtT,xV,unD,List.length_append,List.length_singleton];omega
  exact⟨fun l hl h=>key h.2.2,fun h=>by have:=key h.2.2;simp only[PE.ops];omega⟩
 |opt e t ih =>
  have key:e.ok 0→(uw 5 (e.ops rs ls) (uf 0 0)).length+1≤4*wtT (PE.opt e t).tk:=fun h=>by have:=ih.1 0 (by omega) h;simp only[PE.tk,wtT,xV,uw,uf,List.length_append,List.length_singleton];omega
  exact⟨fun l hl h=>key h.2.2,fun h=>by have:=key h.2.2;simp only[PE.ops];omega⟩
 |not t e ih =>
  have key:e.ok 2→(unD 7 (e.ops rs ls)).length+1≤4*wtT (PE.not t e).tk:=fun h=>by have:=ih.1 2 (by omega) h;simp only[PE.tk,wtT,unD,List.length_append,List.length_singleton];omega
  exact⟨fun l hl h=>key h.2.2,fun h=>by have:=key h.2.2;simp only[PE.ops];omega⟩
 |amp t e ih =>
  have key:e.ok 2→(unD 7 (unD 7 (e.ops rs ls))).length+1≤4*wtT (PE.amp t e).tk:=fun h=>by have:=ih.1 2 (by omega) h;simp only[PE.tk,wtT,unD,List.length_append,List.length_singleton];omega
  exact⟨fun l hl h=>key h.2.2,fun h=>by have:=key h.2.2;simp only[PE.ops];omega⟩
 |emp=>exact⟨fun l hl h=>absurd (show 4≤l from h) (by omega),fun _=>by simp[PE.ops,uf]⟩
 |seq a b iha ihb =>
  have key:a.ok 3→b.ok 2→(uw 4 (a.ops rs ls) (b.ops rs ls)).length+1≤4*wtT (PE.seq a b).tk:=fun h h'=>by have:=iha.1 3 (by omega) h;have:=ihb.1 2 (by omega) h';simp only[PE.tk,xV,uw,List.length_append,List.length_singleton];omega
  exact⟨fun l hl h=>key h.2.1 h.2.2,fun h=>by have:=key h.2.1 h.2.2;simp only[PE.ops];omega⟩
 |alt a t b iha ihb =>
  refine⟨fun l hl h=>absurd h.1 (by omega),fun h=>?_⟩
  have:=iha.2 h.2.2.1;have:=ihb.2 (PE.ok_mono b (by omega) h.2.2.2)
  simp only[PE.ops,PE.tk,wtT,xV,uw,List.length_append,List.length_singleton];omega
theorem ujW:∀z,∀x∈xQ z,x.sl≤2:=by
 have key:∀(r:List Int) (D:List OpD),(∀x∈D,x.sl≤2)→∀x∈r.foldl (fun out y=>out++ui (ur y)++[opd 4 0]) D,x.sl≤2:=by
  intro r;induction r with
  |nil=>exact fun D h=>h
  |cons y r ih =>
   intro D h;rw[List.foldl_cons];refine ih _ (fun x hx=>?_)
   simp only[List.mem_append,List.mem_singleton]at hx;rcases hx with (q | q) | q
   ·exact h x q
   ·rw[ui]at q;rw[List.mem_singleton.1 q];exact Nat.le_refl _
   ·rw[q];exact Nat.zero_le _
 intro z;cases z with
 |nil=>intro x hx;rw[xQ,uf]at hx;rw[List.mem_singleton.1 hx];exact Nat.zero_le _
 |cons y r=>exact key r _ (fun x hx=>by rw[ui]at hx;rw[List.mem_singleton.1 hx];exact Nat.le_refl _)
theorem upa(rs ls:List (List Int))(e:PE)(N:Nat)(hN:2≤N)(h:∀t∈e.tk,t.set.length≤N):∀x∈e.ops rs ls,x.sl≤N:=by
 have leaf:∀k a,∀x∈uf k a,x.sl≤N:=fun k a x hx=>by rw[uf]at hx;rw[List.mem_singleton.1 hx];exact Nat.zero_le _
 have un:∀k D,(∀x∈D,x.sl≤N)→∀x∈unD k D,x.sl≤N:=fun k D h x hx=>by
  rw[unD]at hx;rcases List.mem_append.1 hx with q | q
  ·exact h x q
  ·rw[List.mem_singleton.1 q];exact Nat.zero_le _
 have bin:∀k D D',(∀x∈D,x.sl≤N)→(∀x∈D',x.sl≤N)→∀x∈uw k D D',x.sl≤N:=fun k D D' h h' x hx=>by
  rw[uw]at hx;simp only[List.mem_append,List.mem_singleton]at hx;rcases hx with (q | q) | q
  ·exact h x q
  ·exact h' x q
  ·rw[q];exact Nat.zero_le _
 induction e with
 |ref t=>exact leaf _ _
 |thr c t=>exact leaf _ _
 |str t=>exact fun x hx=>Nat.le_trans (ujW _ x hx) hN
 |cls t=>intro x hx;rw[PE.ops,ui]at hx;rw[List.mem_singleton.1 hx];exact h t (by simp[PE.tk])
 |dot t=>intro x hx;rw[PE.ops,ui]at hx;rw[List.mem_singleton.1 hx];exact hN
 |grp o e c ih=>exact ih (fun t ht=>h t (by simp[PE.tk,ht]))
 |star e t ih=>exact un _ _ (ih (fun t ht=>h t (by simp[PE.tk,ht])))
 |opt e t ih=>exact bin _ _ _ (ih (fun t ht=>h t (by simp[PE.tk,ht]))) (leaf _ _)
 |not t e ih=>exact un _ _ (ih (fun t ht=>h t (by simp[PE.tk,ht])))
 |amp t e ih=>exact un _ _ (un _ _ (ih (fun t ht=>h t (by simp[PE.tk,ht]))))
 |emp=>exact leaf _ _
 |seq a b iha ihb=>exact bin _ _ _ (iha (fun t ht=>h t (by simp[PE.tk,ht]))) (ihb (fun t ht=>h t (by simp[PE.tk,ht])))
 |alt a t b iha ihb=>exact bin _ _ _ (iha (fun t ht=>h t (by simp[PE.tk,ht]))) (ihb (fun t ht=>h t (by simp[PE.tk,ht])))
def xS(s q:Rl):Bool:=(s.car.isSome==q.car.isSome)&&decide (s.name.nm=q.name.nm)
def xF:List Rl→List Rl→Option Nat
 |_,[]=>none
 |seen,q::r=>if seen.any (fun s=>xS s q) then some q.name.at_ else xF (seen++[q]) r
def ue(qs:List Rl):List (List Int):=(qs.filter (fun q=>!q.car.isSome)).map (fun q=>q.name.nm)
def jF(ns:List (List Int)):Bool→List Tok→Option Nat
 |_,[]=>none
 |pc,t::r=>if t.kind=110∧pc=false∧t.nm ∉ ns then some t.at_ else jF ns (t.kind==94) r
def ugZ(ns:List (List Int)):List Rl→Option Nat
 | []=>none
 |q::r=>match jF ns false q.body.tk with | some p=>some p | none=>ugZ ns r
def qu(ns ls:List (List Int))(q:Rl):NL:=⟨q.name.nm,true,q.body.ops ns ls⟩
def uP(ns ls:List (List Int))(qs:List Rl):List NL:=(qs.filter (fun q=>!q.car.isSome)).map (qu ns ls)
def vN(ns ls:List (List Int))(qs:List Rl)(z:List Int):NL :=
 match qs.find? (fun q=>q.car.isSome&&decide (q.name.nm=z)) with
 |some q=>⟨z,true,q.body.ops ns ls⟩
 |none=>⟨z,false,[]⟩
def uS(ns ls:List (List Int))(qs:List Rl):List NL:=ls.map (vN ns ls qs)
def uT(ls:List (List Int))(qs:List Rl):Gr:=gram (uP (ue qs) ls qs) (uS (ue qs) ls qs)
def kK:Gr:=gram [] []
def qM(n:Nat)(qs:List Rl)(code at_:Int)(g:Gr):Prop :=
 match xF [] qs with
 |some p=>code=6∧at_=(p:Nat)∧g=kK
 |none =>
  match ugZ (ue qs) qs with
  |some p=>code=6∧at_=(p:Nat)∧g=kK
  |none =>
   if ue qs = [] then code=6∧at_=(n:Nat)∧g=kK
   else ∃ls,Asc ls∧(∀z,z∈ls↔z∈ufU qs)∧((M.Valid (uT ls qs)∧code=0∧at_=0∧g=uT ls qs)∨(¬M.Valid (uT ls qs)∧code=7∧at_=0∧g=kK))
theorem uaR:∀{seen qs:List Rl},xF seen qs=none→∀(i:Nat) (q:Rl),qs[i]? = some q→∀s∈seen++qs.take i,xS s q=false
 |seen,[],_,i,q,hq=>by simp at hq
 |seen,x::r,h,i,q,hq=>by
  rw[xF]at h;split at h
  ·cases h
  ·rename_i hn
   have hn':∀s∈seen,xS s x=false:=fun s hs=>by
    by_cases e:xS s x=true
    ·exact absurd (List.any_eq_true.2 ⟨s,hs,e⟩) hn
    ·simpa using e
   cases i with
   |zero =>
    simp at hq;subst hq;simpa using hn'
   |succ i =>
    simp at hq;have:=uaR h i q hq;intro s hs;refine this s ?_;simp at hs ⊢;exact hs
end
end Go.Proofs.YthicmmhmmfhncaaGreat
