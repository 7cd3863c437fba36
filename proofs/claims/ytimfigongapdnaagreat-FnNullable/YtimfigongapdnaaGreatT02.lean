import Derived.Test.YtimfigongapdnaaGreatChecked
import Derived.Test.YtimfigongapdnaaGreatT01
import Derived.WalkSpells
import Derived.WalkLawsBesides
import Derived.Deep.OwnRows
import Derived.BigQuiet
set_option linter.unusedVariables false
set_option linter.unusedSimpArgs false
set_option maxHeartbeats 40000000
set_option maxRecDepth 100000
namespace Go.Proofs.YtimfigongapdnaaGreat
section
open Go.RowKit
open M (OpD ug Gr)
theorem xF{a b:Bool}(h:a=b):Ending.returned (.bool a)=.returned (.bool b):=by rw[h]
theorem uD{k a b}(h:a=b):Ending.returned (.int k a)=.returned (.int k b):=by rw[h]
theorem ud{w:World}{a:Addr}{v:Value}(h:w.cell? a=some v):a.block<w.heap.size:=by
 unfold World.cell? at h;cases b:w.heap[a.block]? with
 |none=>simp[b]at h
 |some o=>exact(Array.getElem?_eq_some_iff.1 b).1
theorem ue{w w' a v}(h:w.cell? a=some v)(k:Below w.heap.size w w'):w'.cell? a=some v :=
 (k.cell (p:=a) (ud h)).trans h
def Ints(Q:Nat->Prop)(k:IntKind)(w:World)(a:Option Addr)(n:Nat)(S:Nat->Int):Prop :=
 n=0\/∃b off,a=some ⟨b,off,none⟩/\Q b/\∀i,i<n->w.cell? ⟨b,off+i,none⟩=some (.int k (S i))
structure OpC(Q:Nat->Prop)(w:World)(b o:Nat)(d:OpD):Prop where
 kind:w.cell? ⟨b,o,none⟩=some (.int .i64 d.kind)
 set:∃a c,w.cell? ⟨b,o+1,none⟩=some (.slice a d.sl c)/\Ints Q .i64 w a d.sl d.set
 arg:w.cell? ⟨b,o+2,none⟩=some (.int .i64 d.arg)
def OpsA(Q:Nat->Prop)(w:World)(a:Option Addr)(n:Nat)(B:Nat->OpD):Prop :=
 n=0\/∃b off,a=some ⟨b,off,none⟩/\Q b/\∀i,i<n->OpC Q w b (off+i*3) (B i)
structure RuleC(Q:Nat->Prop)(w:World)(b o:Nat)(d:ug):Prop where
 name:∃a c,w.cell? ⟨b,o,none⟩=some (.slice a d.nl c)/\Ints Q .u8 w a d.nl d.name
 body:∃a c,w.cell? ⟨b,o+1,none⟩=some (.slice a d.bl c)/\OpsA Q w a d.bl d.body
structure LabC(Q:Nat->Prop)(w:World)(b o:Nat)(d:ug):Prop where
 name:∃a c,w.cell? ⟨b,o,none⟩=some (.slice a d.nl c)/\Ints Q .u8 w a d.nl d.name
 has:w.cell? ⟨b,o+1,none⟩=some (.bool d.has)
 body:∃a c,w.cell? ⟨b,o+2,none⟩=some (.slice a d.bl c)/\OpsA Q w a d.bl d.body
def RulesA(Q:Nat->Prop)(w:World)(a:Option Addr)(n:Nat)(R:Nat->ug):Prop :=
 n=0\/∃b off,a=some ⟨b,off,none⟩/\Q b/\∀i,i<n->RuleC Q w b (off+i*2) (R i)
def LabsA(Q:Nat->Prop)(w:World)(a:Option Addr)(n:Nat)(R:Nat->ug):Prop :=
 n=0\/∃b off,a=some ⟨b,off,none⟩/\Q b/\∀i,i<n->LabC Q w b (off+i*3) (R i)
def Stay(Q:Nat->Prop)(w w':World):Prop:=∀b,Q b->w'.heap[b]?=w.heap[b]?
theorem Stay.cell{Q w w'}(h:Stay Q w w'){b o}(a:Q b):w'.cell? ⟨b,o,none⟩=w.cell? ⟨b,o,none⟩ :=
 World.cell?_of_block (w:=w) (h b a)
theorem Stay.trans{Q w w' c}(h:Stay Q w w')(k:Stay Q w' c):Stay Q w c:=λb a=>(k b a).trans (h b a)
variable {Q Q':Nat->Prop} {w w':World}
theorem Ints.on{k:IntKind}{a:Option Addr}{n:Nat}{S:Nat->Int}(h:Ints Q k w a n S)(t:Stay Q w w'):Ints Q k w' a n S:=by
 rcases h with h|⟨b,off,e,c,h⟩
 ·exact .inl h
 exact .inr ⟨b,off,e,c,λi d=>(t.cell c).trans (h i d)⟩
theorem Ints.wide{k:IntKind}{a:Option Addr}{n:Nat}{S:Nat->Int}(h:Ints Q k w a n S)(t:∀b,Q b->Q' b):Ints Q' k w a n S:=by
 rcases h with h|⟨b,off,e,c,h⟩
 ·exact .inl h
 exact .inr ⟨b,off,e,t b c,h⟩
theorem OpC.on{b o:Nat}{d:OpD}(h:OpC Q w b o d)(e:Q b)(t:Stay Q w w'):OpC Q w' b o d:=by
 obtain⟨f,⟨a,c,g,i⟩,j⟩:=h;exact⟨(t.cell e).trans f,⟨a,c,(t.cell e).trans g,i.on t⟩,(t.cell e).trans j⟩
theorem OpC.wide{b o:Nat}{d:OpD}(h:OpC Q w b o d)(t:∀b,Q b->Q' b):OpC Q' w b o d:=by
 obtain⟨e,⟨a,c,f,g⟩,i⟩:=h;exact⟨e,⟨a,c,f,g.wide t⟩,i⟩
theorem OpsA.on{a:Option Addr}{n:Nat}{B:Nat->OpD}(h:OpsA Q w a n B)(t:Stay Q w w'):OpsA Q w' a n B:=by
 rcases h with h|⟨b,off,e,c,h⟩
 ·exact .inl h
 exact .inr ⟨b,off,e,c,λi d=>(h i d).on c t⟩
theorem OpsA.wide{a:Option Addr}{n:Nat}{B:Nat->OpD}(h:OpsA Q w a n B)(t:∀b,Q b->Q' b):OpsA Q' w a n B:=by
 rcases h with h|⟨b,off,e,d,h⟩
 ·exact .inl h
 exact .inr ⟨b,off,e,t b d,λi c=>(h i c).wide t⟩
theorem RuleC.on{b o:Nat}{d:ug}(h:RuleC Q w b o d)(e:Q b)(t:Stay Q w w'):RuleC Q w' b o d:=by
 obtain⟨⟨a,c,i,j⟩,⟨f,g,k,l⟩⟩:=h;exact⟨⟨a,c,(t.cell e).trans i,j.on t⟩,⟨f,g,(t.cell e).trans k,l.on t⟩⟩
theorem RuleC.wide{b o:Nat}{d:ug}(h:RuleC Q w b o d)(t:∀b,Q b->Q' b):RuleC Q' w b o d:=by
 obtain⟨⟨a,c,g,i⟩,⟨e,f,j,k⟩⟩:=h;exact⟨⟨a,c,g,i.wide t⟩,⟨e,f,j,k.wide t⟩⟩
theorem LabC.on{b o:Nat}{d:ug}(h:LabC Q w b o d)(e:Q b)(t:Stay Q w w'):LabC Q w' b o d:=by
 obtain⟨⟨a,c,j,k⟩,i,⟨f,g,l,m⟩⟩:=h;exact⟨⟨a,c,(t.cell e).trans j,k.on t⟩,(t.cell e).trans i,⟨f,g,(t.cell e).trans l,m.on t⟩⟩
theorem LabC.wide{b o:Nat}{d:ug}(h:LabC Q w b o d)(t:∀b,Q b->Q' b):LabC Q' w b o d:=by
 obtain⟨⟨a,c,i,j⟩,g,⟨e,f,k,l⟩⟩:=h;exact⟨⟨a,c,i,j.wide t⟩,g,⟨e,f,k,l.wide t⟩⟩
theorem RulesA.on{a:Option Addr}{n:Nat}{R:Nat->ug}(h:RulesA Q w a n R)(t:Stay Q w w'):RulesA Q w' a n R:=by
 rcases h with h|⟨b,off,e,c,h⟩
 ·exact .inl h
 exact .inr ⟨b,off,e,c,λi d=>(h i d).on c t⟩
theorem RulesA.wide{a:Option Addr}{n:Nat}{R:Nat->ug}(h:RulesA Q w a n R)(t:∀b,Q b->Q' b):RulesA Q' w a n R:=by
 rcases h with h|⟨b,off,e,d,h⟩
 ·exact .inl h
 exact .inr ⟨b,off,e,t b d,λi c=>(h i c).wide t⟩
theorem LabsA.on{a:Option Addr}{n:Nat}{R:Nat->ug}(h:LabsA Q w a n R)(t:Stay Q w w'):LabsA Q w' a n R:=by
 rcases h with h|⟨b,off,e,c,h⟩
 ·exact .inl h
 exact .inr ⟨b,off,e,c,λi d=>(h i d).on c t⟩
theorem LabsA.wide{a:Option Addr}{n:Nat}{R:Nat->ug}(h:LabsA Q w a n R)(t:∀b,Q b->Q' b):LabsA Q' w a n R:=by
 rcases h with h|⟨b,off,e,d,h⟩
 ·exact .inl h
 exact .inr ⟨b,off,e,t b d,λi c=>(h i c).wide t⟩
theorem Ints.later{k:IntKind}{a:Option Addr}{n:Nat}{S:Nat->Int}(h:Ints Q k w a n S)(t:Below w.heap.size w w'):Ints Q k w' a n S:=by
 rcases h with h|⟨b,off,e,d,h⟩
 ·exact .inl h
 exact .inr ⟨b,off,e,d,λi c=>ue (h i c) t⟩
theorem OpC.later{b o:Nat}{d:OpD}(h:OpC Q w b o d)(t:Below w.heap.size w w'):OpC Q w' b o d:=by
 obtain⟨e,⟨a,c,f,g⟩,i⟩:=h;exact⟨ue e t,⟨a,c,ue f t,g.later t⟩,ue i t⟩
theorem OpsA.later{a:Option Addr}{n:Nat}{B:Nat->OpD}(h:OpsA Q w a n B)(t:Below w.heap.size w w'):OpsA Q w' a n B:=by
 rcases h with h|⟨b,off,e,d,h⟩
 ·exact .inl h
 exact .inr ⟨b,off,e,d,λi c=>(h i c).later t⟩
theorem RuleC.later{b o:Nat}{d:ug}(h:RuleC Q w b o d)(t:Below w.heap.size w w'):RuleC Q w' b o d:=by
 obtain⟨⟨a,c,g,i⟩,⟨e,f,j,k⟩⟩:=h;exact⟨⟨a,c,ue g t,i.later t⟩,⟨e,f,ue j t,k.later t⟩⟩
theorem LabC.later{b o:Nat}{d:ug}(h:LabC Q w b o d)(t:Below w.heap.size w w'):LabC Q w' b o d:=by
 obtain⟨⟨a,c,i,j⟩,g,⟨e,f,k,l⟩⟩:=h;exact⟨⟨a,c,ue i t,j.later t⟩,ue g t,⟨e,f,ue k t,l.later t⟩⟩
theorem RulesA.later{a:Option Addr}{n:Nat}{R:Nat->ug}(h:RulesA Q w a n R)(t:Below w.heap.size w w'):RulesA Q w' a n R:=by
 rcases h with h|⟨b,off,e,d,h⟩
 ·exact .inl h
 exact .inr ⟨b,off,e,d,λi c=>(h i c).later t⟩
theorem LabsA.later{a:Option Addr}{n:Nat}{R:Nat->ug}(h:LabsA Q w a n R)(t:Below w.heap.size w w'):LabsA Q w' a n R:=by
 rcases h with h|⟨b,off,e,d,h⟩
 ·exact .inl h
 exact .inr ⟨b,off,e,d,λi c=>(h i c).later t⟩
theorem ui w o:Below w.heap.size w (w.alloc o):=(Below.refl _ w).alloc (Nat.le_refl _) o
theorem uP w o p:Below w.heap.size w ((w.alloc o).alloc p):=(ui w o).alloc (by simp) p
theorem udT w o p q:Below w.heap.size w (((w.alloc o).alloc p).alloc q):=(uP w o p).alloc (by simp;omega) q
theorem uf{a b c}(h:Below a.heap.size a b)(k:Below b.heap.size b c):Below a.heap.size a c:=h.trans (k.mono h.size)
def Of(w:World):Nat->Prop:=λb=>b<w.heap.size
end
open Go.RowKit
theorem qY{P:Prop}(h:P):(true=true↔P):=⟨λ_=>h,λ_=>rfl⟩
theorem uV{P:Prop}(h:¬P):(false=true↔P):=⟨(λe=>absurd e (by decide)),λq=>absurd q h⟩
def Says(P:Prop)(w:World)(e:Ending)(w':World):Prop:=(∃r:Bool,e=.returned (.bool r)/\(r=true↔P))/\w=w'
def xK(P:Prop)(w:World)(e:Ending)(w':World):Prop:=(∃r:Bool,e=.returned (.bool r)/\(r=true↔P))/\Below w.heap.size w w'
theorem Says.b{P:Prop}{w w' e}(h:Says P w e w'):xK P w e w':=by
 obtain⟨a,rfl⟩:=h;exact⟨a,Below.refl _ _⟩
theorem ubS(c:Int):c<65\/(65<=c/\c<=90)\/(90<c/\c<95)\/c=95\/c=96\/(97<=c/\c<=122)\/122<c:=by omega
theorem ucF(c:Int):c<48\/(48<=c/\c<=57)\/57<c:=by omega
theorem kG c w(b:0<=c)(d:c<=255) :
  Calls Tryz.prog 142 #[.int .u8 c] w (Says (M.Letter c) w):=by
 rcases ubS c with h|⟨h,a⟩|⟨h,a⟩|h|h|⟨h,a⟩|h;all_goals (try subst h)
 all_goals (
  go_enter Tryz.func142,Tryz.ntmps142;go_wp2;go_ret;exact⟨⟨_,rfl,by simp[M.Letter]<;>omega⟩,rfl⟩)
theorem vk c w(b:0<=c)(d:c<=255) :
  Calls Tryz.prog 98 #[.int .u8 c] w (Says (M.Letter c) w):=by
 rcases ubS c with h|⟨h,a⟩|⟨h,a⟩|h|h|⟨h,a⟩|h;all_goals (try subst h)
 all_goals (
  go_enter Tryz.func98,Tryz.ntmps98;go_wp2;go_ret;exact⟨⟨_,rfl,by simp[M.Letter]<;>omega⟩,rfl⟩)
theorem ja c w(b:0<=c)(d:c<=255) :
  Calls Tryz.prog 99 #[.int .u8 c] w (Says (M.Digit c) w):=by
 rcases ucF c with h|⟨h,a⟩|h;all_goals (
  go_enter Tryz.func99,Tryz.ntmps99;go_wp2;go_ret;exact⟨⟨_,rfl,by simp[M.Digit]<;>omega⟩,rfl⟩)
theorem jb c w(d:0<=c)(f:c<=255) :
  Calls Tryz.prog 141 #[.int .u8 c] w (Says (M.Letter c\/M.Digit c) w):=by
 by_cases g:M.Letter c
 ·have a:Hid (M.Letter c):=g;go_enter Tryz.func141,Tryz.ntmps141;go_wp2_with (go_at_call 142;refine(kG c _ d f).mono ?_;rintro e W ⟨⟨r,rfl,b⟩,i⟩;subst W;obtain rfl:r=true:=b.2 a;clear b);go_ret;exact⟨⟨true,rfl,qY (.inl a)⟩,rfl⟩
 have a:Hid (¬M.Letter c):=g;rcases ucF c with h|⟨h,j⟩|h;all_goals (
  go_enter Tryz.func141,Tryz.ntmps141;go_wp2_with (go_at_call 142;refine(kG c _ d f).mono ?_;rintro e W ⟨⟨r,rfl,b⟩,i⟩;subst W;obtain rfl:r=false:=by { cases r;rfl;exact absurd (b.1 rfl) a };clear b);go_ret;exact⟨⟨_,rfl,by simp[a.out,M.Digit]<;>omega⟩,rfl⟩)
theorem uee(k:Int):k<4\/k=4\/k=5\/k=6\/k=7\/7<k:=by omega
theorem yU k w :
  Calls Tryz.prog 145 #[.int .i64 k] w λe w'=>e=.returned (.int .i64 (M.ar k))/\w=w':=by
 rcases uee k with h|h|h|h|h|h;all_goals (try subst h)
 all_goals (
  try (
   have a:(k==4)=false:=(by simp;omega);have b:(k==5)=false:=(by simp;omega);have c:(k==6)=false:=(by simp;omega);have d:(k==7)=false:=by simp;omega)
  go_enter Tryz.func145,Tryz.ntmps145;go_wp2;go_ret;exact⟨uD (by unfold M.ar;first|rfl|(rw[if_neg (by omega),if_neg (by omega)])),rfl⟩)
theorem ucG k w :
  Calls Tryz.prog 130 #[.int .i64 k] w λe w'=>e=.returned (.int .i64 (M.ar k))/\w=w':=by
 rcases uee k with h|h|h|h|h|h;all_goals (try subst h)
 all_goals (
  try (
   have a:(k==4)=false:=(by simp;omega);have b:(k==5)=false:=(by simp;omega);have c:(k==6)=false:=(by simp;omega);have d:(k==7)=false:=by simp;omega)
  go_enter Tryz.func130,Tryz.ntmps130;go_wp2;go_ret;exact⟨uD (by unfold M.ar;first|rfl|(rw[if_neg (by omega),if_neg (by omega)])),rfl⟩)
theorem uku(n:Nat)(h:n%2=1):((n:Int)%2 != 0)=true:=by
 have:(n:Int)%2=1:=by omega
 rw[this];decide
theorem uhY(n:Nat)(h:n%2=0):((n:Int)%2 != 0)=false:=by
 have:(n:Int)%2=0:=by omega
 rw[this];decide
theorem usm(n:Nat)(h:n%2=1):((n:Int)%2==1)=true:=by
 have:(n:Int)%2=1:=by omega
 rw[this];decide
theorem usn(n:Nat)(h:n%2=0):((n:Int)%2==1)=false:=by
 have:(n:Int)%2=0:=by omega
 rw[this];decide
theorem uso(n:Nat)(h:n%2=0):((n:Int)%2==0)=true:=by
 have:(n:Int)%2=0:=by omega
 rw[this];decide
theorem usp(n:Nat)(h:n%2=1):((n:Int)%2==0)=false:=by
 have:(n:Int)%2=1:=by omega
 rw[this];decide
theorem ua8 S k:M.least S (k+1)=S (2*k+1)+2:=by
 unfold M.least;rw[if_neg (by omega),show 2*(k+1)-1=2*k+1 by omega]
theorem yT{k a b}(h:a=b):Value.int k a=.int k b:=by rw[h]
theorem ulN n S k(h:2*k=n)(a:∀j,j<k->M.PairOK S j):M.Canon n S :=
 ⟨by omega,λi b=>(M.pairs_canon S k).1 a i (by omega)⟩
theorem ucf n S k(h:2*k<n)(a:¬M.PairOK S k):¬M.Canon n S:=λq =>
 a ((M.pairs_canon S (n / 2)).2 (λi b=>q.2 i (by omega)) k (by have:=q.1;omega))
def usq(w:World)(n:Nat)(S:Nat->Int)(l i:Value)(wr:World):Prop :=
 ∃k d:Nat,2*k<=n/\l=.int .i64 (M.least S k)/\i=.int .i64 ((2*k:Nat):Int)/\wr=w.drewN d/\(∀j,j<k->M.PairOK S j)/\0<=M.least S k/\M.least S k<=257
theorem ucQ Q a n c S w(f:Ints Q .i64 w a n S)(D:n<=1048576) :
  Calls Tryz.prog 158 #[.slice a n c] w (xK (M.Canon n S) w):=by
 rcases(Nat.mod_two_eq_zero_or_one n).symm with h|h
 ·have t:=uku n h;go_enter Tryz.func158,Tryz.ntmps158;go_wp2;go_ret;exact⟨⟨false,rfl,uV λq=>by have:=q.1;omega⟩,Below.refl _ _⟩
 have t:=uhY n h;go_enter Tryz.func158,Tryz.ntmps158;go_wp2;go_loopw [3,4] (λl i wr=>usq w n S l i wr) (λl i _=>n-(intOf i).toNat)
 case atStart=>exact⟨0,0,by omega,rfl,rfl,rfl,λj o=>absurd o (Nat.not_lt_zero _),by simp[M.least],by simp[M.least]⟩
 case round =>
  obtain⟨k,d,A,rfl,rfl,rfl,s,B,C⟩:=hrel;have m:=ua s;by_cases g:2*k<n
  ·rcases f with x|⟨b,off,rfl,E,f⟩
   ·omega
   have y:=f (2*k) g;have z:=f (2*k+1) (by omega);have F:((2*k+1:Nat):Int)=((2*k:Nat):Int)+1:=(by omega);have G:((2*k:Nat):Int)<(n:Int):=(by omega);have H:((2*k:Nat):Int)+1<(n:Int):=(by omega);by_cases u:S (2*k)<M.least S k
   ·go_wp2_with fail;go_quiet (fail);go_wp2;go_ret;exact⟨⟨false,rfl,uV (ucf n S k g λq=>by have:=q.1;omega)⟩,by first|exact below_drewN (Below.refl _ _) _|exact below_drewN (below_drewN (Below.refl _ _) _) _|exact below_drewN (below_drewN (below_drewN (Below.refl _ _) _) _) _⟩
   by_cases v:S (2*k+1)<S (2*k)
   ·go_wp2_with fail;go_quiet (fail);go_wp2;go_ret;exact⟨⟨false,rfl,uV (ucf n S k g λq=>by have:=q.2.1;omega)⟩,by first|exact below_drewN (Below.refl _ _) _|exact below_drewN (below_drewN (Below.refl _ _) _) _|exact below_drewN (below_drewN (below_drewN (Below.refl _ _) _) _) _⟩
   by_cases c3:255<S (2*k+1)
   ·go_wp2_with fail;go_quiet (fail);go_wp2;go_ret;exact⟨⟨false,rfl,uV (ucf n S k g λq=>by have:=q.2.2;omega)⟩,by first|exact below_drewN (Below.refl _ _) _|exact below_drewN (below_drewN (Below.refl _ _) _) _|exact below_drewN (below_drewN (below_drewN (Below.refl _ _) _) _) _⟩
   go_wp2_with fail;go_quiet (fail);go_wp2;go_roundw
   case rel =>
    refine⟨k+1,_,by omega,yT (ua8 S k).symm,by go_num,rfl,λj o=>?_,?_,?_⟩
    ·by_cases e:j=k
     ·subst e;exact⟨by omega,by omega,by omega⟩
     exact m j (by omega)
    ·rw[ua8];omega
    rw[ua8];omega
   case measure=>simp[intOf];omega
  have r:2*k=n:=by omega
  have p:=ua r;have I:¬((2*k:Nat):Int)<(n:Int):=by omega
  go_wp2;go_ret;exact⟨⟨true,rfl,qY (ulN n S k p m)⟩,by first|exact below_drewN (Below.refl _ _) _|exact below_drewN (below_drewN (Below.refl _ _) _) _|exact below_drewN (below_drewN (below_drewN (Below.refl _ _) _) _) _⟩
def usr(w:World)(n:Nat)(S:Nat->Int)(i:Value)(wr:World):Prop :=
 ∃k d:Nat,k<=n/\i=.int .i64 (k:Int)/\wr=w.drewN d/\∀j,j<k->M.CanAt S j
theorem uaz{n S k}(a:k<n)(h:¬M.CanAt S k):¬M.Canon n S:=λq=>h (q.2 k a)
theorem kZ Q a n c S w(o:Ints Q .i64 w a n S)(N:n<=1048576) :
  Calls Tryz.prog 102 #[.slice a n c] w (xK (M.Canon n S) w):=by
 rcases(Nat.mod_two_eq_zero_or_one n).symm with r|r
 ·have t:=uku n r;go_enter Tryz.func102,Tryz.ntmps102;go_wp2;go_ret;exact⟨⟨false,rfl,uV λq=>by have:=q.1;omega⟩,Below.refl _ _⟩
 have t:=uhY n r;go_enter Tryz.func102,Tryz.ntmps102;go_wp2;go_loopw [3] (λi wr=>usr w n S i wr) (λi _=>n-(intOf i).toNat)
 case atStart=>exact⟨0,0,by omega,rfl,rfl,λj s=>absurd s (Nat.not_lt_zero _)⟩
 case round =>
  obtain⟨k,d,I,rfl,rfl,x⟩:=hrel;have m:=ua x;by_cases l:k<n
  ·rcases o with G|⟨b,off,rfl,O,o⟩
   ·omega
   have y:=o k l;have P:(k:Int)<(n:Int):=(by omega);by_cases D:S k<0
   ·go_wp2;go_ret;exact⟨⟨false,rfl,uV (uaz l λq=>by have:=q.1;omega)⟩,by first|exact below_drewN (Below.refl _ _) _|exact below_drewN (below_drewN (Below.refl _ _) _) _|exact below_drewN (below_drewN (below_drewN (Below.refl _ _) _) _) _⟩
   by_cases E:255<S k
   ·go_wp2;go_ret;exact⟨⟨false,rfl,uV (uaz l λq=>by have:=q.2.1;omega)⟩,by first|exact below_drewN (Below.refl _ _) _|exact below_drewN (below_drewN (Below.refl _ _) _) _|exact below_drewN (below_drewN (below_drewN (Below.refl _ _) _) _) _⟩
   by_cases z:k=0
   ·subst z;rw[Nat.add_zero]at y;go_wp2_with fail;go_quiet (fail);go_wp2_with fail;go_quiet (fail);go_wp2;go_roundw
    case rel =>
     refine⟨1,_,by omega,by go_num,rfl,λj s=>?_⟩;obtain rfl:j=0:=(by omega);exact⟨by omega,by omega,λh=>by omega,λh=>by omega⟩
    case measure=>simp[intOf];omega
   obtain⟨p,v⟩:∃p,k=p+1:=⟨k-1,by omega⟩;have g:=ua v;have L:(0:Int)<(k:Int):=(by omega);have J:0<k:=(by omega);have H:=o p (by have:=g;omega);have u:=m p (by have:=g;omega);have C:=u.1;have b1:=u.2.1;clear u;have F:(k:Int)-1=(p:Int):=(by omega);clear v;rcases Nat.mod_two_eq_zero_or_one k with f|f
   ·have B:=usn k f;have A:=uso k f;by_cases c3:S k<S p+2
    ·go_wp2_with fail;go_quiet (fail);go_wp2_with fail;go_quiet (fail);go_wp2;go_ret;exact⟨⟨false,rfl,uV (uaz l λq=>by have:=q.2.2.2 ⟨by omega,f⟩;rw[g.out]at this c3;simp at this;omega)⟩,by first|exact below_drewN (Below.refl _ _) _|exact below_drewN (below_drewN (Below.refl _ _) _) _|exact below_drewN (below_drewN (below_drewN (Below.refl _ _) _) _) _⟩
    go_wp2_with fail;go_quiet (fail);go_wp2_with fail;go_quiet (fail);go_wp2;go_roundw
    case rel =>
     refine⟨k+1,_,by omega,by go_num,rfl,λj s=>?_⟩;by_cases e:j=k
     ·subst j;exact⟨by omega,by omega,λh=>by omega,λh=>by rw[g.out]at c3 ⊢;simp;omega⟩
     exact m j (by omega)
    case measure=>simp[intOf];omega
   have B:=usm k f;have A:=usp k f;by_cases c3:S k<S p
   ·go_wp2_with fail;go_quiet (fail);go_wp2;go_ret;exact⟨⟨false,rfl,uV (uaz l λq=>by have:=q.2.2.1 f;rw[g.out]at this c3;simp at this;omega)⟩,by first|exact below_drewN (Below.refl _ _) _|exact below_drewN (below_drewN (Below.refl _ _) _) _|exact below_drewN (below_drewN (below_drewN (Below.refl _ _) _) _) _⟩
   go_wp2_with fail;go_quiet (fail);go_wp2_with fail;go_quiet (fail);go_wp2;go_roundw
   case rel =>
    refine⟨k+1,_,by omega,by go_num,rfl,λj s=>?_⟩;by_cases e:j=k
    ·subst j;exact⟨by omega,by omega,λh=>by rw[g.out]at c3 ⊢;simp;omega,λh=>by omega⟩
    exact m j (by omega)
   case measure=>simp[intOf];omega
  obtain rfl:k=n:=by omega
  go_wp2;go_ret;exact⟨⟨true,rfl,qY ⟨r,m⟩⟩,by first|exact below_drewN (Below.refl _ _) _|exact below_drewN (below_drewN (Below.refl _ _) _) _|exact below_drewN (below_drewN (below_drewN (Below.refl _ _) _) _) _⟩
open M (OpD ug Gr)
theorem jE Q a(n c l:Nat)B w(o:OpsA Q w a n B)(D:n<=1048576) :
  Calls Tryz.prog 67 #[.slice a n c,.int .i64 l] w (Says (M.Throws n B l) w):=by
 go_enter Tryz.func67,Tryz.ntmps67;go_wp2;go_loopw [5] (λi wr=>∃k:Nat,k<=n/\i=.int .i64 k/\wr=w/\∀j,j<k->¬((B j).kind=3/\(B j).arg=l)) (λi _=>n-(intOf i).toNat)
 case atStart=>exact⟨0,Nat.zero_le _,rfl,rfl,λj p=>absurd p (Nat.not_lt_zero _)⟩
 case round =>
  obtain⟨k,C,rfl,rfl,u⟩:=hrel;have m:=ua u;by_cases r:k<n
  ·rcases o with A|⟨b,off,rfl,E,o⟩
   ·omega
   obtain⟨x,⟨G,H,y,F⟩,z⟩:=o k r;by_cases d:(B k).kind=3
   ·have s:((B k).kind==3)=true:=(by simp[d]);have g:=ua d;by_cases f:(B k).arg=l
    ·have t:((B k).arg==(l:Int))=true:=(by simp[f]);have h:=ua f;go_wp2;go_ret;exact⟨⟨true,rfl,qY ⟨k,r,g,h⟩⟩,rfl⟩
    have t:((B k).arg==(l:Int))=false:=(by simp[f]);have h:=ua f;go_wp2;go_roundw
    case rel=>exact⟨k+1,by omega,by go_num,by trivial,λj p=>if e:j=k then e▸λq=>h q.2 else m j (by omega)⟩
    case measure=>simp[intOf];omega
   have s:((B k).kind==3)=false:=(by simp[d]);have g:=ua d;go_wp2;go_roundw
   case rel=>exact⟨k+1,by omega,by go_num,by trivial,λj p=>if e:j=k then e▸λq=>g q.1 else m j (by omega)⟩
   case measure=>simp[intOf];omega
  obtain rfl:k=n:=by omega
  go_wp2;go_ret;exact⟨⟨false,rfl,uV λ⟨i,v,q⟩=>m i v q⟩,rfl⟩
def uqV(w:World)(n:Nat)(B:Nat->OpD)(d i:Value)(wr:World):Prop :=
 ∃j:Nat,j<=n/\d=.int .i64 (M.need B n j)/\i=.int .i64 ((n:Int)-1-j)/\wr=w/\∀t,t<j->M.need B n t≠0
theorem ugw Q a n c B w(k:OpsA Q w a n B)(H:n<=1048576) :
  Calls Tryz.prog 103 #[.slice a n c] w (Says (M.Shape n B) w):=by
 go_enter Tryz.func103,Tryz.ntmps103;go_wp2;go_loopw [3,4] (λd i wr=>uqV w n B d i wr) (λd i _=>(intOf i+1).toNat)
 case atStart=>exact⟨0,Nat.zero_le _,rfl,by simp,rfl,λj o=>absurd o (Nat.not_lt_zero _)⟩
 case round =>
  obtain⟨j,o,rfl,rfl,rfl,m⟩:=hrel;have A:=M.need_bd B n j m;have l:=ua m;by_cases v:j<n
  ·rcases k with F|⟨b,off,rfl,J,k⟩
   ·omega
   obtain⟨p,x⟩:=nm (n-1-j);have r:=ua x;have h:(n:Int)-1-j=p:=(by omega);have y:p<n:=(by omega);have I:(p:Int)<n:=(by omega);rw[h];obtain⟨C,⟨P,R,D,L⟩,E⟩:=k p y;have z:M.need B n (j+1)=M.need B n j+(M.ar (B p).kind-1):=(by rw[M.need,r.out]);have G:=M.ar_bd (B p).kind;have s:=ua z;by_cases f:M.need B n j=0
   ·have u:(M.need B n j==0)=true:=(by simp[f]);have g:=ua f;go_wp2;go_ret;exact⟨⟨false,rfl,uV λq=>((M.shape_iff n B).2 q).1 j v g⟩,rfl⟩
   have u:(M.need B n j==0)=false:=(by simp[f]);have g:=ua f;go_wp2_with (go_at_call 130;refine(ucG _ _).mono ?_;rintro e W ⟨rfl,O⟩;subst W);go_roundw
   case rel=>exact⟨j+1,by omega,yT s.symm,yT (by omega),by trivial,λt N=>if e:t=j then e▸g.out else l t (by omega)⟩
   case measure=>simp[intOf]<;>omega
  obtain rfl:j=n:=by omega
  have h:(j:Int)-1-j = -1:=by omega
  rw[h];go_wp2;go_ret;refine⟨⟨_,rfl,?_⟩,rfl⟩;rw[<-M.shape_iff];simp only[beq_iff_eq];exact⟨λq=>⟨l,q⟩,λq=>q.2⟩
theorem ueR nr e b S a:M.ElemOK nr e ⟨1,b,S,a⟩↔a=0/\M.Canon b S:=by
 unfold M.ElemOK M.most;constructor
 ·rintro⟨_,_,h,_,c,d⟩;exact⟨by simp at c d;omega,h rfl⟩
 rintro⟨rfl,h⟩;refine⟨?_,?_,λ_=>h,λq=>absurd rfl q,?_,?_⟩<;>simp
theorem ug5 nr c b S a:M.ElemOK nr c ⟨2,b,S,a⟩↔0<=a/\a<nr/\b=0:=by
 unfold M.ElemOK M.most;simp;omega
theorem ueS nr b c S a:M.ElemOK nr b ⟨3,c,S,a⟩↔0<=a/\a<b/\c=0:=by
 unfold M.ElemOK M.most;simp;omega
theorem ug6 nr d c S a b(h:a=0\/a=4\/a=5\/a=6\/a=7):M.ElemOK nr d ⟨a,c,S,b⟩↔b=0/\c=0:=by
 unfold M.ElemOK M.most;rcases h with rfl|rfl|rfl|rfl|rfl<;>(simp;omega)
theorem umD nr e f S a b(h:a<0\/7<a):¬M.ElemOK nr e ⟨a,f,S,b⟩:=λq=>by
 have c:=q.1;have d:=q.2.1;simp at c d;omega
theorem udo(k:Int):k=1\/k=2\/k=3\/(k=0\/k=4\/k=5\/k=6\/k=7)\/(k<0\/7<k):=by omega
theorem xd Q y la f nr z d lc b k S a c w(x:Ints Q .i64 w f b S)(H:nr<=1048576)(I:d<=1048576)(u:b<=1048576) :
  Calls Tryz.prog 144 #[.agg #[.slice y nr z,.slice la d lc],.agg #[.int .i64 a,.slice f b k,.int .i64 c]] w (xK (M.ElemOK nr d ⟨a,b,S,c⟩) w):=by
 rcases udo a with rfl|rfl|rfl|h|h
 ·by_cases g:c=0
  ·subst g;have v:∀o p,Ints Q .i64 ((w.alloc o).alloc p) f b S:=λo p=>x.later (uP w o p)
   go_enter Tryz.func144,Tryz.ntmps144;go_wp2_with (go_at_call 158;refine(ucQ Q f b k S _ (v _ _) u).mono ?_;rintro e W ⟨⟨r,rfl,j⟩,i⟩;have s:Hid _:=j;have m:Hid _:=i;clear j i);go_ret;exact⟨⟨_,rfl,s.trans ((ueR nr d b S 0).trans ⟨λq=>q.2,λq=>⟨rfl,q⟩⟩).symm⟩,uf (uP w _ _) m⟩
  have t:(c==0)=false:=by simp[g]
  have l:=ua g;go_enter Tryz.func144,Tryz.ntmps144;go_wp2;go_ret;exact⟨⟨false,rfl,uV λq=>l ((ueR nr d b S c).1 q).1⟩,uP w _ _⟩
 ·go_enter Tryz.func144,Tryz.ntmps144;go_wp2;all_goals go_ret
  all_goals exact⟨⟨_,rfl,by rw[ug5];simp<;>omega⟩,uP w _ _⟩
 ·go_enter Tryz.func144,Tryz.ntmps144;go_wp2;all_goals go_ret
  all_goals exact⟨⟨_,rfl,by rw[ueS];simp<;>omega⟩,uP w _ _⟩
 ·rcases h with rfl|rfl|rfl|rfl|rfl;all_goals (
   go_enter Tryz.func144,Tryz.ntmps144;go_wp2;all_goals go_ret
   all_goals exact⟨⟨_,rfl,by rw[ug6 _ _ _ _ _ _ (by omega)];simp<;>omega⟩,uP w _ _⟩)
 have n:Hid (a<0\/7<a):=h;have t:(a==0)=false:=by simp;omega
 have A:(a==1)=false:=by simp;omega
 have B:(a==2)=false:=by simp;omega
 have C:(a==3)=false:=by simp;omega
 have D:(a==4)=false:=by simp;omega
 have E:(a==5)=false:=by simp;omega
 have F:(a==6)=false:=by simp;omega
 have G:(a==7)=false:=by simp;omega
 go_enter Tryz.func144,Tryz.ntmps144;go_wp2;go_ret;exact⟨⟨false,rfl,uV (umD _ _ _ _ _ _ n)⟩,uP w _ _⟩
def usO(W1:World)(n nr a:Nat)(B:Nat->OpD)(d i:Value)(wr:World):Prop :=
 ∃k:Nat,k<=n/\d=.int .i64 (M.dep B k)/\i=.int .i64 (k:Int)/\Below W1.heap.size W1 wr/\∀j,j<k->M.ElemOK nr a (B j)/\M.ar (B j).kind<=M.dep B j
def xG(n:Nat)(B:Nat->OpD):Prop:=n<=1048576/\∀i,i<n->(B i).sl<=1048576
theorem umE nr b n B(h:∀j,j<n->M.ElemOK nr b (B j)/\M.ar (B j).kind<=M.dep B j):M.BodyOK nr b n B↔M.dep B n=1 :=
 ⟨λq=>q.2.2,λq=>⟨λi a=>(h i a).1,λi a=>(h i a).2,q⟩⟩
theorem yq Q m la a nr o f lc n c B w(s:OpsA Q w a n B)(C:nr<=1048576)(D:f<=1048576)(U:xG n B) :
  Calls Tryz.prog 106 #[.agg #[.slice m nr o,.slice la f lc],.slice a n c] w (xK (M.BodyOK nr f n B) w):=by
 obtain⟨hn,u⟩:=U;have N:=ua s;have P:=ua u;go_enter Tryz.func106,Tryz.ntmps106;go_wp2;go_loopw [5,10] (λd i wr=>usO (w.alloc (.cells #[.slice m nr o,.slice la f lc] 28)) n nr f B d i wr) (λd i _=>n-(intOf i).toNat)
 case atStart=>exact⟨0,Nat.zero_le _,rfl,rfl,Below.refl _ _,λj x=>absurd x (Nat.not_lt_zero _)⟩
 case round =>
  obtain⟨k,V,rfl,rfl,t,J⟩:=hrel;have Z:=M.dep_bd B n k V (λj x=>(J j x).2);have H:=ua J;have E:=uf (ui w _) t;by_cases y:k<n
  ·have s:=N.later E;rcases s with h0|⟨b,off,rfl,hq,s⟩
   ·omega
   obtain⟨S,⟨F,G,c1,X⟩,c2⟩:=s k y;have u:=P k y;have g0:wr.cell? ⟨w.heap.size,0,none⟩=some (.slice m nr o):=ue (by simp) t;have g1:wr.cell? ⟨w.heap.size,1,none⟩=some (.slice la f lc):=ue (by simp) t;have ac:w.heap.size<wr.heap.size:=(by have:=t.size;simp at this;omega);have ab:=ud S;have aa:=M.ar_bd (B k).kind;have R:Hid (M.dep B (k+1)=M.dep B k+(1-M.ar (B k).kind)):=rfl;have I:=ua E;have O:=t;have z:=ua X;by_cases L:M.ElemOK nr f (B k)
   ·have l:Hid (M.ElemOK nr f (B k)):=L;by_cases hd:M.dep B k<M.ar (B k).kind
    ·go_wp2_with (first|(go_at_call 144;refine(xd Q m la F nr o f lc (B k).sl G (B k).set (B k).kind (B k).arg _ (z.later (ui wr _)) C D u).mono ?_;rintro e W ⟨⟨r,rfl,h⟩,g⟩;obtain rfl:r=true:=h.2 l;have T:=(ue (a:=⟨wr.heap.size,0,none⟩) (v:=.int .i64 (B k).kind) (by simp) g);have p:Hid _:=g;clear h g)|(go_at_call 145;refine(yU _ _).mono ?_;rintro e A ⟨rfl,Y⟩;subst A));go_ret;exact⟨⟨false,rfl,uV λq=>by have:=q.2.1 k y;omega⟩,uf I (uf (ui wr _) p)⟩
    go_wp2_with (first|(go_at_call 144;refine(xd Q m la F nr o f lc (B k).sl G (B k).set (B k).kind (B k).arg _ (z.later (ui wr _)) C D u).mono ?_;rintro e W ⟨⟨r,rfl,h⟩,g⟩;obtain rfl:r=true:=h.2 l;have T:=(ue (a:=⟨wr.heap.size,0,none⟩) (v:=.int .i64 (B k).kind) (by simp) g);have p:Hid _:=g;clear h g)|(go_at_call 145;refine(yU _ _).mono ?_;rintro e A ⟨rfl,Y⟩;subst A));go_roundw
    case rel=>exact⟨k+1,by omega,yT R.symm,by go_num,uf O (uf (ui wr _) p),λj x=>if e:j=k then e▸⟨l,by omega⟩ else H j (by omega)⟩
    case measure=>simp[intOf];omega
   have l:Hid (¬M.ElemOK nr f (B k)):=L;go_wp2_with fail;refine(xd Q m la F nr o f lc (B k).sl G (B k).set (B k).kind (B k).arg _ (z.later (ui wr _)) C D u).mono ?_;rintro e W ⟨⟨r,rfl,h⟩,g⟩;obtain rfl:r=false:=(by { cases r;rfl;exact absurd (h.1 rfl) l });have p:=g;go_wp2;go_ret;exact⟨⟨false,rfl,uV λq=>l (q.1 k y)⟩,uf I (uf (ui wr _) p)⟩
  obtain rfl:k=n:=by omega
  go_wp2;go_ret;exact⟨⟨_,rfl,by rw[umE nr f _ B H.out];simp⟩,E⟩
end Go.Proofs.YtimfigongapdnaaGreat
