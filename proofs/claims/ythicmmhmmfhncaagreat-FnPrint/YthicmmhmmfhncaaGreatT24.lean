import Derived.Test.YthicmmhmmfhncaaGreatT18
import Derived.Test.YthicmmhmmfhncaaGreatT23
set_option linter.unusedVariables false
set_option linter.unusedSimpArgs false
namespace Go.Proofs.YthicmmhmmfhncaaGreat
section
open Go.RowKit
open M (OpD uj Gr)
inductive PE where
 |ref (t:Tok)
 |thr (c t:Tok)
 |str (t:Tok)
 |cls (t:Tok)
 |dot (t:Tok)
 |grp (o:Tok) (e:PE) (c:Tok)
 |star (e:PE) (t:Tok)
 |opt (e:PE) (t:Tok)
 |not (t:Tok) (e:PE)
 |amp (t:Tok) (e:PE)
 |emp
 |seq (a b:PE)
 |alt (a:PE) (t:Tok) (b:PE)
def PE.tk:PE→List Tok
 | .ref t=>[t]
 | .thr c t=>[c,t]
 | .str t=>[t]
 | .cls t=>[t]
 | .dot t=>[t]
 | .grp o e c=>o::(e.tk++[c])
 | .star e t=>e.tk++[t]
 | .opt e t=>e.tk++[t]
 | .not t e=>t::e.tk
 | .amp t e=>t::e.tk
 | .emp=>[]
 | .seq a b=>a.tk++b.tk
 | .alt a t b=>a.tk++t::b.tk
def PE.ok:PE→Nat→Prop
 | .ref t,_=>t.kind=110
 | .thr c t,_=>c.kind=94∧t.kind=110
 | .str t,_=>t.kind=34
 | .cls t,_=>t.kind=91
 | .dot t,_=>t.kind=46
 | .grp o e c,_=>o.kind=40∧c.kind=41∧e.ok 5
 | .star e t,l=>1≤l∧t.kind=42∧e.ok 0
 | .opt e t,l=>1≤l∧t.kind=63∧e.ok 0
 | .not t e,l=>2≤l∧t.kind=33∧e.ok 2
 | .amp t e,l=>2≤l∧t.kind=38∧e.ok 2
 | .emp,l=>4≤l
 | .seq a b,l=>3≤l∧a.ok 3∧b.ok 2
 | .alt a t b,l=>5≤l∧t.kind=47∧a.ok 5∧b.ok 4
theorem PE.ok_mono:∀(e:PE) {l m:Nat},l≤m→e.ok l→e.ok m
 | .ref _,_,_,_,h=>h
 | .thr _ _,_,_,_,h=>h
 | .str _,_,_,_,h=>h
 | .cls _,_,_,_,h=>h
 | .dot _,_,_,_,h=>h
 | .grp _ _ _,_,_,_,h=>h
 | .star _ _,_,_,hl,h=>⟨Nat.le_trans h.1 hl,h.2⟩
 | .opt _ _,_,_,hl,h=>⟨Nat.le_trans h.1 hl,h.2⟩
 | .not _ _,_,_,hl,h=>⟨Nat.le_trans h.1 hl,h.2⟩
 | .amp _ _,_,_,hl,h=>⟨Nat.le_trans h.1 hl,h.2⟩
 | .emp,_,_,hl,h=>Nat.le_trans h hl
 | .seq _ _,_,_,hl,h=>⟨Nat.le_trans h.1 hl,h.2⟩
 | .alt _ _ _,_,_,hl,h=>⟨Nat.le_trans h.1 hl,h.2⟩
def xQ:List Int→List OpD
 | []=>uf 0 0
 |x::r=>r.foldl (fun out y=>out++ui (ur y)++[opd 4 0]) (ui (ur x))
def PE.ops(rs ls:List (List Int)):PE→List OpD
 | .ref t=>uf 2 (vV t.nm rs 0)
 | .thr _ t=>uf 3 (vV t.nm ls 0)
 | .str t=>xQ t.nm
 | .cls t=>ui t.set
 | .dot _=>ui [0,255]
 | .grp _ e _=>e.ops rs ls
 | .star e _=>unD 6 (e.ops rs ls)
 | .opt e _=>uw 5 (e.ops rs ls) (uf 0 0)
 | .not _ e=>unD 7 (e.ops rs ls)
 | .amp _ e=>unD 7 (unD 7 (e.ops rs ls))
 | .emp=>uf 0 0
 | .seq a b=>uw 4 (a.ops rs ls) (b.ops rs ls)
 | .alt a _ b=>uw 5 (a.ops rs ls) (b.ops rs ls)
def kAt(l:List Tok)(i:Nat):Int:=match l[i]? with | some x=>x.kind | none=>0
theorem ue8:∀(e:PE),e.ok 2→∀(r:List Tok),kAt (e.tk++r) 0≠42∧kAt (e.tk++r) 0≠63∧0<e.tk.length:=by
 intro e;induction e with
 |not t e ih=>intro h r;have h3:=h.2.1;exact⟨by show t.kind≠42;omega,by show t.kind≠63;omega,by simp[PE.tk]⟩
 |amp t e ih=>intro h r;have h3:=h.2.1;exact⟨by show t.kind≠42;omega,by show t.kind≠63;omega,by simp[PE.tk]⟩
 |star e t ih =>
  intro h r;have:=ih (PE.ok_mono e (by omega) h.2.2) ([t]++r)
  show kAt ((e.tk++[t])++r) 0≠42∧kAt ((e.tk++[t])++r) 0≠63∧0<(e.tk++[t]).length;rw[List.append_assoc];exact⟨this.1,this.2.1,by simp⟩
 |opt e t ih =>
  intro h r;have:=ih (PE.ok_mono e (by omega) h.2.2) ([t]++r)
  show kAt ((e.tk++[t])++r) 0≠42∧kAt ((e.tk++[t])++r) 0≠63∧0<(e.tk++[t]).length;rw[List.append_assoc];exact⟨this.1,this.2.1,by simp⟩
 |emp=>intro h;exact absurd h (by show ¬(4≤2);omega)
 |seq a b _ _=>intro h;exact absurd h.1 (by omega)
 |alt a t b _ _=>intro h;exact absurd h.1 (by omega)
 |ref t=>intro h r;have h3:t.kind=110:=h;exact⟨by show t.kind≠42;omega,by show t.kind≠63;omega,by simp[PE.tk]⟩
 |thr c t=>intro h r;have h3:=h.1;exact⟨by show c.kind≠42;omega,by show c.kind≠63;omega,by simp[PE.tk]⟩
 |str t=>intro h r;have h3:t.kind=34:=h;exact⟨by show t.kind≠42;omega,by show t.kind≠63;omega,by simp[PE.tk]⟩
 |cls t=>intro h r;have h3:t.kind=91:=h;exact⟨by show t.kind≠42;omega,by show t.kind≠63;omega,by simp[PE.tk]⟩
 |dot t=>intro h r;have h3:t.kind=46:=h;exact⟨by show t.kind≠42;omega,by show t.kind≠63;omega,by simp[PE.tk]⟩
 |grp o e c _=>intro h r;have h3:=h.1;exact⟨by show o.kind≠42;omega,by show o.kind≠63;omega,by simp[PE.tk]⟩
end
section
open Go.RowKit
open M (OpD uj Gr)
abbrev ues:Value:=.iface 135 (.agg #[])
def SetA(w:World)(z:List Int)(v:Value)(P:Nat→Prop):Prop:=∃a c,v=.iface 115 (.agg #[.slice a z.length c])∧OwnC P w (.slice a z.length c) 1 z.length (uz .i64 (lf z) z.length)
def unl(A B:Value→(Nat→Prop)→Prop)(ty:TypeId)(v:Value)(P:Nat→Prop):Prop :=
 ∃u u' Pa Pb,v=.iface ty (.agg #[u,u'])∧(∀b,Pa b→P b)∧(∀b,Pb b→P b)∧(∀b,Pa b→¬Pb b)∧A u Pa∧B u' Pb
def StrN(w:World):List Int→Value→(Nat→Prop)→Prop
 | [],v,P=>v=ues
 | [x],v,P=>SetA w (ur x) v P
 |y::x::r,v,P=>unl (StrN w (x::r)) (SetA w (ur y)) 121 v P
def TrA(w:World):PE→Value→(Nat→Prop)→Prop
 | .ref t,v,P=>v=.iface 117 (.agg #[.string (str t.nm.length (lf t.nm))])
 | .thr _ t,v,P=>v=.iface 119 (.agg #[.string (str t.nm.length (lf t.nm))])
 | .str t,v,P=>StrN w t.nm.reverse v P
 | .cls t,v,P=>SetA w t.set v P
 | .dot _,v,P=>SetA w [0,255] v P
 | .grp _ e _,v,P=>TrA w e v P
 | .star e _,v,P=>∃u,v=.iface 124 (.agg #[u])∧TrA w e u P
 | .opt e _,v,P=>∃u,v=.iface 122 (.agg #[u,ues])∧TrA w e u P
 | .not _ e,v,P=>∃u,v=.iface 125 (.agg #[u])∧TrA w e u P
 | .amp _ e,v,P=>∃u,v=.iface 125 (.agg #[.iface 125 (.agg #[u])])∧TrA w e u P
 | .emp,v,P=>v=ues
 | .seq a b,v,P=>unl (TrA w a) (TrA w b) 121 v P
 | .alt a _ b,v,P=>unl (TrA w a) (TrA w b) 122 v P
theorem SetA.on{w w':World}{z:List Int}{v:Value}{P P':Nat→Prop}(h:SetA w z v P)(k:Stay P w w')(t:∀b,P b→P' b):SetA w' z v P':=by
 obtain⟨a,c,e,h⟩:=h;exact⟨a,c,e,uo (h.on k) t⟩
theorem StrN.on{w w':World}:∀(z:List Int) {v:Value} {P P':Nat→Prop},StrN w z v P→Stay P w w'→(∀b,P b→P' b)→StrN w' z v P'
 | [],v,P,P',h,_,_=>h
 | [x],v,P,P',h,k,t=>SetA.on h k t
 |y::x::r,v,P,P',h,k,t=>by
  obtain⟨u,u',Pa,Pb,e,h1,h2,h3,h4,h5⟩:=h;exact⟨u,u',Pa,Pb,e,fun b q=>t b (h1 b q),fun b q=>t b (h2 b q),h3,StrN.on (x::r) h4 (fun b q=>k b (h1 b q)) (fun b q=>q),SetA.on h5 (fun b q=>k b (h2 b q)) (fun b q=>q)⟩
theorem TrA.on{w w':World}:∀(e:PE) {v:Value} {P P':Nat→Prop},TrA w e v P→Stay P w w'→(∀b,P b→P' b)→TrA w' e v P':=by
 intro e;induction e with
 |ref t=>exact fun h _ _=>h
 |thr c t=>exact fun h _ _=>h
 |str t=>exact fun h k q=>StrN.on _ h k q
 |cls t=>exact fun h k q=>SetA.on h k q
 |dot t=>exact fun h k q=>SetA.on h k q
 |grp o e c ih=>exact fun h k q=>ih h k q
 |star e t ih=>exact fun ⟨u,h1,h2⟩ k q=>⟨u,h1,ih h2 k q⟩
 |opt e t ih=>exact fun ⟨u,h1,h2⟩ k q=>⟨u,h1,ih h2 k q⟩
 |not t e ih=>exact fun ⟨u,h1,h2⟩ k q=>⟨u,h1,ih h2 k q⟩
 |amp t e ih=>exact fun ⟨u,h1,h2⟩ k q=>⟨u,h1,ih h2 k q⟩
 |emp=>exact fun h _ _=>h
 |seq a b iha ihb=>exact fun ⟨u,u',Pa,Pb,e,h1,h2,h3,h4,h5⟩ k q=>⟨u,u',Pa,Pb,e,fun b x=>q b (h1 b x),fun b x=>q b (h2 b x),h3,iha h4 (fun b x=>k b (h1 b x)) (fun b x=>x),ihb h5 (fun b x=>k b (h2 b x)) (fun b x=>x)⟩
 |alt a t b iha ihb=>exact fun ⟨u,u',Pa,Pb,e,h1,h2,h3,h4,h5⟩ k q=>⟨u,u',Pa,Pb,e,fun b x=>q b (h1 b x),fun b x=>q b (h2 b x),h3,iha h4 (fun b x=>k b (h1 b x)) (fun b x=>x),ihb h5 (fun b x=>k b (h2 b x)) (fun b x=>x)⟩
set_option maxHeartbeats 1000000 in
theorem uaC(x:Int)(w:World)(h0:0≤x)(h1:x≤255):Calls Tryz.prog 133 #[.int .u8 x] w fun e w'=>(∃v,e=.returned v∧SetA w' (ur x) v (New w w'))∧Keep (fun _=>False) w w':=by
 have hcv:∀W,(convert 5 3 (.int .u8 x)).run Tryz.prog W=.ok (.int .i64 x) W:=fun W=>udi x W h0 h1
 go_enter Tryz.func133,Tryz.ntmps133;go_wp2;go_ret;refine⟨⟨_,rfl,some ⟨w.heap.size,0,none⟩,2,rfl,.inr ⟨w.heap.size,2,rfl,⟨Nat.le_refl _,by simp⟩,rfl,Nat.le_refl _,fun j hj=>?_,fun j hj=>⟨?_,?_⟩⟩⟩,Keep.alloc _ _ _⟩
 ·have hb:=World.alloc_heap_new w (.cells #[.int .i64 x,.int .i64 x] 3)
  match j,hj with
  |0,_=>simp only[World.cell?,hb];rfl
  |1,_=>simp only[World.cell?,hb];rfl
 ·have hb:=World.alloc_heap_new w (.cells #[.int .i64 x,.int .i64 x] 3)
  match j,hj with
  |0,_=>simp only[World.cell?,hb];rfl
  |1,_=>simp only[World.cell?,hb];rfl
 ·have hb:=World.alloc_heap_new w (.cells #[.int .i64 x,.int .i64 x] 3)
  simp only[World.frozen?,hb];rfl
def ufC(c:Int):Bool:=decide (c=33∨c=38∨c=94∨c=46∨c=40∨c=97∨c=34∨c=91)
set_option maxHeartbeats 1000000 in
theorem yE(c:Int)(w:World):Calls Tryz.prog 103 #[.int .u8 c] w fun e w'=>e=.returned (.bool (ufC c))∧w'=w:=by
 by_cases h:c=33∨c=38∨c=94∨c=46∨c=40∨c=97∨c=34∨c=91
 ·have hb:ufC c=true:=decide_eq_true h
  rw[hb];clear hb;rcases h with rfl | rfl | rfl | rfl | rfl | rfl | rfl | rfl
  all_goals (
   go_enter Tryz.func103,Tryz.ntmps103;go_wp2;go_ret;exact⟨rfl,rfl⟩)
 ·have hb:ufC c=false:=decide_eq_false h
  rw[hb];simp only[not_or]at h;obtain⟨h1,h2,h3,h4,h5,h6,h7,h8⟩:=h;have e1:(c==33)=false:=by simpa using h1
  have e2:(c==38)=false:=by simpa using h2
  have e3:(c==94)=false:=by simpa using h3
  have e4:(c==46)=false:=by simpa using h4
  have e5:(c==40)=false:=by simpa using h5
  have e6:(c==97)=false:=by simpa using h6
  have e7:(c==34)=false:=by simpa using h7
  have e8:(c==91)=false:=by simpa using h8
  clear h1 h2 h3 h4 h5 h6 h7 h8 hb;go_enter Tryz.func103,Tryz.ntmps103;go_wp2;go_ret;exact⟨rfl,rfl⟩
end
section
open Go.RowKit
open M (OpD uj Gr)
theorem SetA.iface{w:World}{z:List Int}{v:Value}{P:Nat→Prop}(h:SetA w z v P):∃ty u,v=.iface ty u:=by
 obtain⟨a,c,e,_⟩:=h;exact⟨_,_,e⟩
theorem StrN.iface{w:World}:∀{z:List Int} {v:Value} {P:Nat→Prop},StrN w z v P→∃ty u,v=.iface ty u
 | [],v,P,h=>⟨_,_,h⟩
 | [x],v,P,h=>SetA.iface h
 |y::x::r,v,P,h=>by
  obtain⟨u,u',Pa,Pb,e,_⟩:=h;exact⟨_,_,e⟩
theorem TrA.iface{w:World}:∀(e:PE) {v:Value} {P:Nat→Prop},TrA w e v P→∃ty u,v=.iface ty u:=by
 intro e;induction e with
 |ref t=>exact fun h=>⟨_,_,h⟩
 |thr c t=>exact fun h=>⟨_,_,h⟩
 |str t=>exact fun h=>StrN.iface h
 |cls t=>exact fun h=>SetA.iface h
 |dot t=>exact fun h=>SetA.iface h
 |grp o e c ih=>exact fun h=>ih h
 |star e t ih=>exact fun ⟨u,h1,_⟩=>⟨_,_,h1⟩
 |opt e t ih=>exact fun ⟨u,h1,_⟩=>⟨_,_,h1⟩
 |not t e ih=>exact fun ⟨u,h1,_⟩=>⟨_,_,h1⟩
 |amp t e ih=>exact fun ⟨u,h1,_⟩=>⟨_,_,h1⟩
 |emp=>exact fun h=>⟨_,_,h⟩
 |seq a b iha ihb=>exact fun ⟨u,u',Pa,Pb,e,_⟩=>⟨_,_,e⟩
 |alt a t b iha ihb=>exact fun ⟨u,u',Pa,Pb,e,_⟩=>⟨_,_,e⟩
theorem StrN.snoc{w wr W:World}{l:List Int}{y:Int}{v u:Value}(hl:l≠[])(h:StrN wr l v (New w wr))(k0:Keep (fun _=>False) w wr)(k:Keep (fun _=>False) wr W)(hu:SetA W (ur y) u (New wr W)):StrN W (y::l) (.iface 121 (.agg #[v,u])) (New w W):=by
 cases l with
 |nil=>exact absurd rfl hl
 |cons x r =>
  refine⟨v,u,New w wr,New wr W,rfl,fun b q=>⟨q.1,Nat.lt_of_lt_of_le q.2 k.size⟩,fun b q=>⟨Nat.le_trans k0.size q.1,q.2⟩,fun b q q'=>by have:=q.2;have:=q'.1;omega,?_,hu⟩
  exact StrN.on (x::r) h (fun b q=>k.block b q.2 (fun e=>e)) (fun b q=>q)
theorem uoV(z:List Int)(hb:BytL z)(i:Nat)(y:Int)(h:i<(str z.length (lf z)).size)(hy:z[i]? = some y):(((str z.length (lf z))[i]'h).toNat:Int)=y:=by
 have hi:=(List.getElem?_eq_some_iff.1 hy).1;have hby:=hb y (List.mem_of_getElem? hy);have e1:(str z.length (lf z)).data.toList[i]? = some ((str z.length (lf z))[i]'h):=by
  rw[Array.getElem?_toList];exact Array.getElem?_eq_getElem (by simpa using h)
 rw[yU]at e1;unfold u8s at e1;rw[List.getElem?_map,List.getElem?_range hi]at e1;injection e1 with e1
 rw[←e1];have e2:lf z i=y:=by unfold lf;rw[List.getD_eq_getElem?_getD,hy];rfl
 show (((UInt8.ofNat (lf z i).toNat).toNat:Nat):Int)=y;rw[e2];simp;omega
def sxI(z:List Int)(w:World)(v u:Value)(wr:World):Prop:=∃i:Nat,1≤i∧i≤z.length∧u=.int .i64 (i:Nat)∧StrN wr (z.take i).reverse v (New w wr)∧Keep (fun _=>False) w wr
set_option maxHeartbeats 1000000 in
set_option maxRecDepth 100000 in
theorem udy(z:List Int)(w:World)(hb:BytL z)(hl:z.length≤1000000) :
  Calls Tryz.prog 131 #[.string (str z.length (lf z))] w fun e w'=>(∃v,e=.returned v∧StrN w' z.reverse v (New w w'))∧Keep (fun _=>False) w w':=by
 cases hz:z with
 |nil =>
  show Calls Tryz.prog 131 #[.string ⟨#[]⟩] w _;go_enter Tryz.func131,Tryz.ntmps131;go_wp2;go_ret;exact⟨⟨_,rfl,rfl⟩,Keep.refl _ _⟩
 |cons x r =>
  rw[←hz];have hpos:0<z.length:=by rw[hz];simp
  have HH:Hid (z=x::r):=hz;have HB:Hid (BytL z):=hb;have HSI:Hid (∀(i:Nat) (y:Int) (h:i<(str z.length (lf z)).size),z[i]? = some y→(((str z.length (lf z))[i]'h).toNat:Int)=y):=fun i y h hy=>uoV z hb i y h hy
  have hsz:=yC z.length (lf z);have hne:((str z.length (lf z)).toList==([]:List UInt8))=false:=by
   rw[qz];unfold u8s;rw[beq_eq_false_iff_ne];intro q;have:=congrArg List.length q;rw[List.length_map,List.length_range,List.length_nil]at this;omega
  clear hz hb;generalize str z.length (lf z)=sz at *;go_enter Tryz.func131,Tryz.ntmps131;go_wp2_with fail;have h0:((sz[0]'(by omega)).toNat:Int)=x:=HSI.out 0 x _ (by rw[HH.out];rfl)
  rw[h0];clear h0;have hbx:=HB.out x (by rw[HH.out];simp)
  refine (uaC x w hbx.1 hbx.2).mono ?_;rintro e W1 ⟨⟨v1,rfl,hS1⟩,hK1⟩;have HS0:Hid (sxI z w v1 (.int .i64 1) W1):=⟨1,Nat.le_refl _,hpos,rfl,by rw[HH.out];exact hS1,hK1⟩
  clear hS1 hK1;go_wp2;go_loopw [3,4] (sxI z w) (fun _ u _=>z.length-(intOf u).toNat)
  case atStart=>exact HS0.out
  case round =>
   obtain⟨i,hi1,hi2,rfl,hS,hK⟩:=hrel;obtain⟨ty3,x3,rfl⟩:=hS.iface;have HS:Hid (StrN wr (z.take i).reverse (.iface ty3 x3) (New w wr)):=hS;have HK:Hid (Keep (fun _=>False) w wr):=hK
   clear hS hK HS0;by_cases hlt:i<z.length
   ·have hlt':(i:Int)<sz.size:=by omega
    have hlt2:i<sz.size:=by omega
    obtain⟨y,hy⟩:∃y,z[i]? = some y:=⟨_,List.getElem?_eq_getElem hlt⟩;have HY:Hid (((sz[i]'hlt2).toNat:Int)=y):=HSI.out i y hlt2 hy;have hby:=HB.out y (List.mem_of_getElem? hy);have HTK:Hid ((z.take (i+1)).reverse=y::(z.take i).reverse∧(z.take i).reverse≠[]):=⟨by rw[List.take_add_one,hy];simp,fun q=>by
     have:=congrArg List.length q;simp at this;rcases this with h | h
     ·omega
     ·rw[h]at hlt;simp at hlt⟩
    clear hy;go_wp2_with fail;rw[HY.out];refine (uaC y wr hby.1 hby.2).mono ?_;rintro e W2 ⟨⟨v2,rfl,hS2⟩,hK2⟩;obtain⟨ty2,x2,rfl⟩:=hS2.iface;have HNX:Hid (sxI z w (.iface 121 (.agg #[.iface ty3 x3,.iface ty2 x2])) (.int .i64 ((i:Int)+1)) W2):=⟨i+1,by omega,hlt,by simp,by rw[HTK.out.1];exact StrN.snoc HTK.out.2 HS.out HK.out hK2 hS2,HK.out.trans hK2⟩
    clear hS2 hK2;go_wp2;go_roundw;all_goals first
     |exact HNX.out
     | (simp[intOf];omega)
   ·have hlt':¬(i:Int)<sz.size:=by omega
    have HE:Hid (StrN wr z.reverse (.iface ty3 x3) (New w wr)):=by
     have h:=HS.out;rw[List.take_of_length_le (by omega)]at h
     exact h
    go_wp2;go_ret;exact⟨⟨_,rfl,HE.out⟩,HK.out⟩
end
end Go.Proofs.YthicmmhmmfhncaaGreat
