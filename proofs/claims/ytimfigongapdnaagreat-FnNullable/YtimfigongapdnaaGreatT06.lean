import Derived.Test.YtimfigongapdnaaGreatT05
set_option linter.unusedVariables false
set_option linter.unusedSimpArgs false
set_option maxHeartbeats 40000000
set_option maxRecDepth 100000
namespace Go.Proofs.YtimfigongapdnaaGreat
open Go.RowKit
open M (OpD ug Gr ur)
def rg(M:Nat->Bool):Nat->List Int
 |0=>[]
 |b+1=>rg M b++((if M b&&(b==0||!M (b-1)) then [(b:Int)] else [])++(if M b&&(b==255||!M (b+1)) then [(b:Int)] else []))
theorem yE M b:rg M (b+1)=rg M b++((if M b&&(b==0||!M (b-1)) then [(b:Int)] else [])++(if M b&&(b==255||!M (b+1)) then [(b:Int)] else [])):=rfl
theorem ui9 M b:(rg M b).length<=2*b:=by
 induction b with
 |zero=>exact Nat.le_refl _
 |succ b e =>
  rw[rg,List.length_append,List.length_append];have:∀(c:Bool),(if c then [(b:Int)] else []).length<=1:=λc=>by cases c<;>simp
  have a:=this (M b&&(b==0||!M (b-1)));have d:=this (M b&&(b==255||!M (b+1)));omega
def vE(a:List Int):List Value:=a.map (λz=>.int .i64 z)
def OwnL(w0 w:World)(v:Value)(l:List Int):Prop:=∃P,OwnC P w v 1 l.length (vE l)/\(∀b,P b->w0.heap.size<=b/\b<w.heap.size)/\Below w0.heap.size w0 w
theorem OwnL.bel{w0 w v l}(h:OwnL w0 w v l):Below w0.heap.size w0 w:=let ⟨_,_,_,h⟩:=h;h
theorem OwnL.nil{w0 w}(h:Below w0.heap.size w0 w):OwnL w0 w (.slice none 0 0) []:=⟨λ_=>False,.inl ⟨rfl,rfl,rfl⟩,λb q=>q.elim,h⟩
theorem OwnL.shape{w0 w v l}(h:OwnL w0 w v l):∃a c,v=.slice a l.length c:=by
 obtain⟨P,h,_⟩:=h;exact uk h
theorem uom{w0 w1 v l}z ty(h:OwnL w0 w1 v l)(A:l.length<=4096) :
  ∃f w',(Builtin.append_ #[36,36] ty #[v,.slice (some ⟨w1.heap.size,0,none⟩) 1 1]).run Tryz.prog (w1.alloc (.cells #[.int .i64 z] 3))=.ok f w'/\OwnL w0 w' f (l++[z]):=by
 obtain⟨P,s,i,c⟩:=h;have b1:=ui w1 (.cells #[.int .i64 z] 3);have x:Src Tryz.prog 1 36 (.slice (some ⟨w1.heap.size,0,none⟩) 1 1) 1 [.int .i64 z] (w1.alloc (.cells #[.int .i64 z] 3)):=by
  refine Src.ofSlice (P:=Tryz.prog) _ Tryz.underlying36 ⟨w1.heap.size,0,none⟩ 1 1 [.int .i64 z] rfl (λj u a=>?_) (λu a=>?_)
  ·match j,a with
   |0,a=>simpa[Addr.add] using (cN w1.heap.size rfl a:(w1.alloc (.cells #[.int .i64 z] 3)).cell? ⟨w1.heap.size,0,none⟩=some u)
   |j+1,a=>simp at a
  simp at a;subst a;rfl
 obtain⟨f,w',w,y,d,D⟩:=ym ty elem36 (s.on (λb c=>b1.block b (i b c).2)) x (by omega) (λ_=>Nat.one_pos);refine⟨f,w',w,λb=>(P b\/(w1.alloc (.cells #[.int .i64 z] 3)).heap.size<=b)/\b<w'.heap.size,?_,?_,?_⟩
 ·have e:vE (l++[z])=vE l++[.int .i64 z]:=by simp[vE]
  rw[e,List.length_append,List.length_singleton];rcases y with q|⟨g,cap,e,t,n,o,p,k⟩
  ·exact .inl q
  refine .inr ⟨g,cap,e,⟨t,?_⟩,n,o,p,k⟩;obtain⟨u,a⟩:=Option.isSome_iff_exists.1 (k 0 (by omega)).1;exact ud a
 ·rintro b ⟨q|q,m⟩
  ·exact⟨(i b q).1,m⟩
  have:=c.size;have:=b1.size;exact⟨by omega,m⟩
 have B:=c.size;have C:=b1.size;exact⟨d.os.trans (b1.os.trans c.os),d.tape.trans (b1.tape.trans c.tape),d.output.trans (b1.output.trans c.output),by have:=d.size;omega,λb r=>(d.block b (by omega) (λq=>by have:=(i b q).1;omega)).trans ((b1.block b (by omega)).trans (c.block b r))⟩
theorem uaE{ops:Array Oper}{rest:List Oper}{o:Oper}{a:Act}{f:Exit->Act->World->Prop}(j:o.guard=none)(s x:Operand)(n:o.op=.call { callee:=.builtin .append,args:=#[s,x],argTypes:=#[36,36] })
  {w0 w1:World} {v:Value} {l:List Int} {z:Int} (q:a.eval s=v) (r:a.eval x=.slice (some ⟨w1.heap.size,0,none⟩) 1 1) (h:OwnL w0 w1 v l) (m:l.length<=4096)
  (k:∀w' d e b c,Hid (d=l++[z])->Hid (e=d.length)->Hid (OwnL w0 w' (.slice b e c) d)->wpList Tryz.prog ops f rest (a.put o.dst (.slice b e c)) w'):wpList Tryz.prog ops f (o::rest) a (w1.alloc (.cells #[.int .i64 z] 3)):=by
 refine wpList_plain j λK i=>?_
 obtain⟨t,w',p,g⟩:=uom z o.type h m;obtain⟨b,c,rfl⟩:=g.shape;unfold Oper.wp execOp;simp only[n,resolve,invoke,builtin,Sem.run_bind,Sem.run_pure,Result.andThen_ok,List.map_toArray,List.map_cons,List.map_nil,q,r,p];exact i _ _ (k w' (l++[z]) _ b c rfl rfl g)
def ukp(w:World)(a:Option Addr)(M:Nat->Bool):Prop:=∃b,a=some ⟨b,0,none⟩/\∀i,i<256->w.cell? ⟨b,i,none⟩=some (.bool (M i))
def ucb(l:List Int)(w:World)(e:Ending)(w':World):Prop:=∃a c,e=.returned (.slice a l.length c)/\OwnL w w' (.slice a l.length c) l
def rgI(w:World)(M:Nat->Bool)(b a:Value)(wr:World):Prop:=∃k:Nat,k<=256/\a=.int .i64 (k:Int)/\OwnL w wr b (rg M k)
theorem jW a M w(c:ukp w a M):Calls Tryz.prog 138 #[.slice a 256 256] w (ucb (rg M 256) w):=by
 obtain⟨b,rfl,H⟩:=c;have T:=ua H;have lb:=ud (H 0 (by omega));clear H;go_enter Tryz.func138,Tryz.ntmps138;go_wp2;go_loopw [3,4] (λS J wr=>rgI w M S J wr) (λS J _=>256-(intOf J).toNat)
 case atStart=>exact⟨0,by omega,rfl,OwnL.nil (Below.refl _ _)⟩
 case round =>
  obtain⟨k,hk,rfl,G⟩:=hrel;obtain⟨Y,Z,rfl⟩:=G.shape;have X:=ui9 M k;obtain⟨on,I⟩:=nm ((rg M k).length);rw[I]at G X ⊢;have h:=ua G;have r:=ua I;have m:Hid (∀W i,Below w.heap.size w W->i<256->W.cell? ⟨b,i,none⟩=some (.bool (M i))):=λW i U V=>ue (T.out i V) U
  clear G I;by_cases ab:k<256
  ·have hlt':(k:Int)<256:=(by omega);have ac:=Nat.lt_of_lt_of_le lb h.out.bel.size;rcases Nat.eq_zero_or_pos k with Q|Q
   ·subst Q;have u:=m.out wr (0) h.out.bel (by omega);have x:=m.out wr (1) h.out.bel (by omega);cases c:M (0) with
    |false =>
     rw[c]at u;have g:Hid (rg M (0+1)=rg M (0)):=(by show _=_;rw[yE M (0)];simp[c]);clear c;go_wp2;go_roundw
     case rel =>
      refine⟨(0)+1,by omega,by go_num,?_⟩;rw[g.out];exact h.out
     case measure=>first|(simp[intOf];done)|(simp[intOf];omega)
    |true =>
     rw[c]at u;cases d:M (1) with
     |true =>
      rw[d]at x;have s:=ua c;have t:=ua d;have g:Hid (rg M (0+1)=rg M (0)++[((0:Nat):Int)]):=(by show _=_;rw[yE M (0)];simp[c,d]);clear c d;go_wp2_with (at_builtin;refine uaE (l:=rg M (0)) rfl _ _ rfl rfl rfl h.out (by rw[r.out];omega) ?_;intro W L n z A q y f;have o:=m.out W (0) f.out.bel (by omega);have v:=m.out W (1) f.out.bel (by omega);have C:=ud o;rw[s.out]at o;rw[t.out]at v);go_roundw
      case rel =>
       refine⟨(0)+1,by omega,by go_num,?_⟩;rw[g.out];exact q.out▸f.out
      case measure=>first|(simp[intOf];done)|(simp[intOf];omega)
     |false =>
      rw[d]at x;have s:=ua c;have t:=ua d;have g:Hid (rg M (0+1)=rg M (0)++([((0:Nat):Int)]++[((0:Nat):Int)])):=(by show _=_;rw[yE M (0)];simp[c,d]);clear c d;go_wp2_with (first|(at_builtin;refine uaE (l:=rg M (0)) rfl _ _ rfl rfl rfl h.out (by rw[r.out];omega) ?_;intro W L n z A q y f;have o:=m.out W (0) f.out.bel (by omega);have v:=m.out W (1) f.out.bel (by omega);have C:=ud o;rw[s.out]at o;rw[t.out]at v)|(at_builtin;refine uaE (l:=L) rfl _ _ rfl rfl rfl f.out (by rw[q.out,List.length_append,r.out];simp;omega) ?_;intro W2 L2 R O P D N E));go_roundw
      case rel =>
       refine⟨(0)+1,by omega,by go_num,?_⟩;have e:rg M ((0)+1)=L2:=(by rw[g.out,D.out,q.out,List.append_assoc];rfl);rw[e];exact E.out
      case measure=>first|(simp[intOf];done)|(simp[intOf];omega)
   obtain⟨j,rfl⟩:∃j,k=j+1:=⟨k-1,by omega⟩;have e0:((j:Int)+1==0)=false:=(by simp;omega);by_cases B:j=254
   ·subst B;have u:=m.out wr (255) h.out.bel (by omega);have F:=m.out wr (254) h.out.bel (by omega);cases c:M (255) with
    |false =>
     rw[c]at u;have g:Hid (rg M (255+1)=rg M (255)):=(by show _=_;rw[yE M (255)];simp[c]);clear c;go_wp2;go_roundw
     case rel =>
      refine⟨(255)+1,by omega,by go_num,?_⟩;rw[g.out];exact h.out
     case measure=>first|(simp[intOf];done)|(simp[intOf];omega)
    |true =>
     rw[c]at u;cases p:M (254) with
     |true =>
      rw[p]at F;have s:=ua c;have g:Hid (rg M (255+1)=rg M (255)++[((255:Nat):Int)]):=(by show _=_;rw[yE M (255)];simp[c,p]);clear c p;go_wp2_with (at_builtin;refine uaE (l:=rg M (255)) rfl _ _ rfl rfl rfl h.out (by rw[r.out];omega) ?_;intro W L n z A q y f;have o:=m.out W (255) f.out.bel (by omega);have C:=ud o);go_roundw
      case rel =>
       refine⟨(255)+1,by omega,by go_num,?_⟩;rw[g.out];exact q.out▸f.out
      case measure=>first|(simp[intOf];done)|(simp[intOf];omega)
     |false =>
      rw[p]at F;have s:=ua c;have g:Hid (rg M (255+1)=rg M (255)++([((255:Nat):Int)]++[((255:Nat):Int)])):=(by show _=_;rw[yE M (255)];simp[c,p]);clear c p;go_wp2_with (first|(at_builtin;refine uaE (l:=rg M (255)) rfl _ _ rfl rfl rfl h.out (by rw[r.out];omega) ?_;intro W L n z A q y f;have o:=m.out W (255) f.out.bel (by omega);have C:=ud o;rw[s.out]at o)|(at_builtin;refine uaE (l:=L) rfl _ _ rfl rfl rfl f.out (by rw[q.out,List.length_append,r.out];simp;omega) ?_;intro W2 L2 R O P D N E));go_roundw
      case rel =>
       refine⟨(255)+1,by omega,by go_num,?_⟩;have e:rg M ((255)+1)=L2:=(by rw[g.out,D.out,q.out,List.append_assoc];rfl);rw[e];exact E.out
      case measure=>first|(simp[intOf];done)|(simp[intOf];omega)
   have e5:((j:Int)+1==255)=false:=(by simp;omega);have aa:(j:Int)+1+1<256:=(by omega);have u:=m.out wr (j+1) h.out.bel (by omega);have F:=m.out wr (j) h.out.bel (by omega);have x:=m.out wr (j+1+1) h.out.bel (by omega);cases c:M (j+1) with
   |false =>
    rw[c]at u;have g:Hid (rg M (j+1+1)=rg M (j+1)):=(by show _=_;rw[yE M (j+1)];simp[B,c]);clear c;go_wp2;go_roundw
    case rel =>
     refine⟨(j+1)+1,by omega,by go_num,?_⟩;rw[g.out];exact h.out
    case measure=>first|(simp[intOf];done)|(simp[intOf];omega)
   |true =>
    rw[c]at u;cases p:M (j) with
    |true =>
     rw[p]at F;cases d:M (j+1+1) with
     |true =>
      rw[d]at x;have s:=ua c;have t:=ua d;have g:Hid (rg M (j+1+1)=rg M (j+1)):=(by show _=_;rw[yE M (j+1)];simp[B,c,p,d]);clear c p d;go_wp2;go_roundw
      case rel =>
       refine⟨(j+1)+1,by omega,by go_num,?_⟩;rw[g.out];exact h.out
      case measure=>first|(simp[intOf];done)|(simp[intOf];omega)
     |false =>
      rw[d]at x;have s:=ua c;have t:=ua d;have g:Hid (rg M (j+1+1)=rg M (j+1)++[((j+1:Nat):Int)]):=(by show _=_;rw[yE M (j+1)];simp[B,c,p,d]);clear c p d;go_wp2_with (at_builtin;refine uaE (l:=rg M (j+1)) rfl _ _ rfl rfl rfl h.out (by rw[r.out];omega) ?_;intro W L n z A q y f;have o:=m.out W (j+1) f.out.bel (by omega);have v:=m.out W (j+1+1) f.out.bel (by omega);have C:=ud o);go_roundw
      case rel =>
       refine⟨(j+1)+1,by omega,by go_num,?_⟩;rw[g.out];exact q.out▸f.out
      case measure=>first|(simp[intOf];done)|(simp[intOf];omega)
    |false =>
     rw[p]at F;cases d:M (j+1+1) with
     |true =>
      rw[d]at x;have s:=ua c;have t:=ua d;have g:Hid (rg M (j+1+1)=rg M (j+1)++[((j+1:Nat):Int)]):=(by show _=_;rw[yE M (j+1)];simp[B,c,p,d]);clear c p d;go_wp2_with (at_builtin;refine uaE (l:=rg M (j+1)) rfl _ _ rfl rfl rfl h.out (by rw[r.out];omega) ?_;intro W L n z A q y f;have o:=m.out W (j+1) f.out.bel (by omega);have v:=m.out W (j+1+1) f.out.bel (by omega);have C:=ud o;rw[s.out]at o;rw[t.out]at v);go_roundw
      case rel =>
       refine⟨(j+1)+1,by omega,by go_num,?_⟩;rw[g.out];exact q.out▸f.out
      case measure=>first|(simp[intOf];done)|(simp[intOf];omega)
     |false =>
      rw[d]at x;have s:=ua c;have t:=ua d;have g:Hid (rg M (j+1+1)=rg M (j+1)++([((j+1:Nat):Int)]++[((j+1:Nat):Int)])):=(by show _=_;rw[yE M (j+1)];simp[B,c,p,d]);clear c p d;go_wp2_with (first|(at_builtin;refine uaE (l:=rg M (j+1)) rfl _ _ rfl rfl rfl h.out (by rw[r.out];omega) ?_;intro W L n z A q y f;have o:=m.out W (j+1) f.out.bel (by omega);have v:=m.out W (j+1+1) f.out.bel (by omega);have C:=ud o;rw[s.out]at o;rw[t.out]at v)|(at_builtin;refine uaE (l:=L) rfl _ _ rfl rfl rfl f.out (by rw[q.out,List.length_append,r.out];simp;omega) ?_;intro W2 L2 R O P D N E));go_roundw
      case rel =>
       refine⟨(j+1)+1,by omega,by go_num,?_⟩;have e:rg M ((j+1)+1)=L2:=(by rw[g.out,D.out,q.out,List.append_assoc];rfl);rw[e];exact E.out
      case measure=>first|(simp[intOf];done)|(simp[intOf];omega)
  obtain rfl:k=256:=by omega
  go_wp2;go_ret;exact⟨Y,Z,by rw[r.out];rfl,by rw[r.out];exact h.out⟩
def ucy(M:Nat->Bool)(m:Nat)(j:Nat):Value:=if j<m then .bool (M j) else .bool false
theorem ud3{t:TypeId}{w:World}{b n m:Nat}{M:Nat->Bool}(h:w.rowIs b t n (ucy M m)):(w.setCell ⟨b,m,none⟩ (.bool (M m))).rowIs b t n (ucy M (m+1)):=by
 refine(h.set m (.bool (M m))).congr λi _=>?_
 unfold ucy;by_cases e:i=m
 ·subst e;simp
 rw[if_neg e];by_cases a:i<m
 ·rw[if_pos a,if_pos (by omega)]
 rw[if_neg a,if_neg (by omega)]
theorem uhQ:(Tryz.prog.info? 4).map (λi=>(i.zero,i.size,i.bytes))=some (some (.bool false),1,1):=by kernel_rfl
def byI(w:World)(M:Nat->Bool)(a:Value)(wr:World):Prop :=
 ∃m:Nat,m<=256/\a=.int .i64 (m:Int)/\wr.rowIs w.heap.size 4 256 (ucy M m)/\Below w.heap.size w wr/\wr.heap.size=w.heap.size+1
theorem ucz Q Q' a l n f c v S h w(x:Ints Q .i64 w a n S)(y:Ints Q' .i64 w l f h)(R:n<=1048576)(T:f<=1048576) :
  Calls Tryz.prog 156 #[.slice a n c,.slice l f v] w (ucb (rg (λb=>yr n S b||yr f h b) 256) w):=by
 have C:=run_make_row' (P:=Tryz.prog) 31 4 (.bool false) 1 Tryz.underlying31 uhQ rfl .i64 .i64 256 (by omega) (by omega);simp only[show((256:Nat):Int)=256 from rfl]at C;have F:=ua x;have G:=ua y;obtain⟨M,o⟩:∃M:Nat->Bool,M=λb:Nat=>yr n S b||yr f h b:=⟨_,rfl⟩
 have s:=ua o;rw[<-o];clear x y o;go_enter Tryz.func156,Tryz.ntmps156;go_wp2;go_loopw [6] (λr wr=>byI w M r wr) (λr _=>256-(intOf r).toNat)
 case atStart=>exact⟨0,by omega,rfl,(World.rowIs_made w _ 256 4).congr λi _=>by simp[ucy],(Below.refl _ w).alloc (Nat.le_refl _) _,by simp⟩
 case round =>
  obtain⟨m,Z,rfl,g,j,q⟩:=hrel;clear C;by_cases O:m<256
  ·have hlt':(m:Int)<256:=(by omega);have X:=g.cell O;have Y:=g.frozen m;have D:=ud3 g;have t:=ua D;have d:=ua j;have u:=ua q;clear g D j q;go_wp2_with fail;refine(uau Q a n c S m _ (F.later d) R).mono ?_;rintro e W ⟨rfl,N⟩;subst W;cases k:yr n S m with
   |true =>
    have p:Hid (M m=true):=(by show M m=true;rw[s.out];simp[k]);clear k;go_wp2;go_roundw
    case rel=>exact⟨m+1,by omega,by go_num,p.out▸t.out,uK d _ _ _ (Nat.le_refl _),by rw[uj];exact u⟩
    case measure=>simp[intOf];omega
   |false =>
    have p:Hid (M m=yr f h m):=(by show M m=_;rw[s.out];simp[k]);clear k;go_wp2_with fail;refine(uau Q' l f v h m _ (G.later d) T).mono ?_;rintro e W ⟨rfl,N⟩;subst W;rw[<-p.out];go_wp2;go_roundw
    case rel=>exact⟨m+1,by omega,by go_num,t,uK d _ _ _ (Nat.le_refl _),by rw[uj];exact u⟩
    case measure=>simp[intOf];omega
  obtain rfl:m=256:=by omega
  have d:=ua j;have H:Hid (ukp wr (some ⟨w.heap.size,0,none⟩) M):=⟨w.heap.size,rfl,λi B=>by rw[g.cell B];simp[ucy,B]⟩;clear g j q;go_wp2_with fail;refine(jW _ M _ H).mono ?_;rintro e W ⟨J,L,rfl,z⟩;have I:=ua z;clear z;go_wp2;go_ret;obtain⟨P,U,E,V⟩:=I;have:=d.size;exact⟨J,L,rfl,P,U,λb A=>⟨by have:=E b A;omega,(E b A).2⟩,uf d V⟩
def lf(l:List Int)(i:Nat):Int:=l.getD i 0
def MSt.note(s:MSt)(n:Nat)(S:Nat->Int):MSt :=
 if s.far<s.pos then { s with far:=s.pos,exp:=λb=>yr n S (b:Int) }
 else if s.pos=s.far then { s with exp:=λb=>yr n S (b:Int)||s.exp b } else s
def MSt.test(s:MSt)(n:Nat)(S:Nat->Int)(il:Nat)(I:Nat->Int):MSt :=
 if s.pos<il/\yr n S (I s.pos)=true then { s with pos:=s.pos+1,at_:=s.at_+1 }
 else (if s.inNot then s else s.note n S).fail
def MSt.pop(s:MSt):MSt:={ s with st:=s.st.dropLast }
def MSt.enter(s:MSt)(x:ur)(most:Int):MSt:=({ s with at_:=x.to }).push ⟨2,s.at_+1,0,0⟩ most
def MSt.put(s:MSt)(k a:Int):MSt:={ s with log:=s.log++[⟨k,a,s.pos⟩],at_:=s.at_+1 }
def MSt.hold(s:MSt)(k to most:Int):MSt:=({ s with at_:=s.at_+1 }).push ⟨k,to,s.pos,s.log.length⟩ most
def kX(l:List FrD):Int:=match l.getLast? with|none=>0|some f=>f.to
def MSt.act(s:MSt)(x:ur)(il:Nat)(I:Nat->Int)(most:Int):MSt :=
 if x.kind=0 then s.test x.sl x.set il I
 else if x.kind=1 then s.hold 0 x.to most
 else if x.kind=4 then s.hold 1 x.to most
 else if x.kind=6 then s.enter x most
 else if x.kind=8 then (if s.inNot then s.fail else if x.to<0 then ({ s with throws:=s.throws+1,label:=x.arg }).fin 2 else ({ s with throws:=s.throws+1 }).enter x most)
 else if x.kind=2/\s.top 0=true then { s.pop with at_:=x.to }
 else if x.kind=3/\s.top 0=true then ({ s.pop with at_:=x.to }).push ⟨0,kX s.st,s.pos,s.log.length⟩ most
 else if x.kind=5/\s.top 1=true then s.pop.fail
 else if x.kind=7/\s.top 2=true then { s.pop with at_:=kX s.st }
 else if x.kind=9 then s.put 0 x.arg
 else if x.kind=10 then s.put 1 x.arg
 else if x.kind=11 then s.put 2 x.arg
 else if x.kind=12/\s.st.length=0 then s.fin 0
 else s.fin 4
def MSt.next(s:MSt)(n:Nat)(R:Nat->ur)(il:Nat)(I:Nat->Int)(fuel most:Int):MSt :=
 if s.at_<0\/(n:Int)<=s.at_ then s.fin 4
 else if (s.steps:Int)=fuel then s.fin 3
 else ({ s with steps:=s.steps+1 }).act (R s.at_.toNat) il I most
inductive Ends(n:Nat)(R:Nat->ur)(il:Nat)(I:Nat->Int)(fuel most:Int):MSt->MSt->Prop
 |over {s:MSt}:s.done=true->Ends n R il I fuel most s s
 |go {s t:MSt}:s.done=false->Ends n R il I fuel most (s.next n R il I fuel most) t->Ends n R il I fuel most s t
structure Good(most:Int)(s:MSt):Prop where
 len:(s.st.length:Int)<=most
 logs:s.log.length<=s.steps
 last:∀f,f∈s.st->f.kind≠2->f.log<=s.log.length
 asc:s.st.Pairwise (λf g=>f.kind≠2->g.kind≠2->f.log<=g.log)
 kinds:∀f,f∈s.st->f.kind=0\/f.kind=1\/f.kind=2
theorem Good.fin{most s}(h:Good most s)c:Good most (s.fin c):=⟨h.len,h.logs,h.last,h.asc,h.kinds⟩
theorem ucB{l r f}(h:uU l=some (f,r)):f.kind≠2/\∃p,l=p++f::r:=by
 induction l with
 |nil=>simp[uU]at h
 |cons x l b =>
  rw[uU]at h;by_cases e:x.kind=2
  ·rw[if_pos e]at h;obtain⟨a,p,rfl⟩:=b h;exact⟨a,x::p,rfl⟩
  rw[if_neg e]at h;cases h;exact⟨e,[],rfl⟩
theorem Good.fail{most s}(h:Good most s):Good most s.fail:=by
 unfold MSt.fail;cases n:uU s.st.reverse with
 |none=>exact h.fin 1
 |some p =>
  obtain⟨f,r⟩:=p;obtain⟨d,p,m⟩:=ucB n;have a:s.st=r.reverse++(f::p.reverse):=by
   have:=congrArg List.reverse m;simpa using this
  have j:f∈s.st:=by rw[a];simp
  have l:=h.last f j d;have c:=h.asc;rw[a,List.pairwise_append]at c;obtain⟨e,o,i⟩:=c;refine⟨?_,?_,?_,e,λg b=>h.kinds g (by rw[a];exact List.mem_append_left _ b)⟩
  ·have:=h.len;rw[a,List.length_append]at this;show((r.reverse.length:Nat):Int)<=most;omega
  ·show(s.log.take f.log).length<=s.steps;have:=h.logs;rw[List.length_take];omega
  intro g b k;show g.log<=(s.log.take f.log).length;rw[List.length_take,Nat.min_eq_left l];exact i g b f (List.mem_cons_self) k d
theorem Good.push{most s}(h:Good most s)f(b:f.kind≠2->f.log=s.log.length)(j:f.kind=0\/f.kind=1\/f.kind=2):Good most (s.push f most):=by
 unfold MSt.push;split
 ·exact h.fin 3
 rename_i l;refine⟨?_,h.logs,λg a c=>?_,?_,λg a=>?_⟩
 ·show(((s.st++[f]).length:Nat):Int)<=most;rw[List.length_append,List.length_singleton];omega
 ·rcases List.mem_append.1 a with q|q
  ·exact h.last g q c
  simp at q;subst q;show g.log<=s.log.length;rw[b c];exact Nat.le_refl _
 ·show(s.st++[f]).Pairwise _;rw[List.pairwise_append];refine⟨h.asc,by simp,λx k y d e i=>?_⟩;simp at d;subst d;rw[b i];exact h.last x k e
 rcases List.mem_append.1 a with q|q
 ·exact h.kinds g q
 simp at q;subst q;exact j
theorem Good.pop{most s}(h:Good most s):Good most s.pop:=by
 refine⟨?_,h.logs,λg a=>h.last g (List.dropLast_subset _ a),h.asc.sublist (List.dropLast_sublist _),λg a=>h.kinds g (List.dropLast_subset _ a)⟩;have:=h.len;show((s.st.dropLast.length:Nat):Int)<=most;rw[List.length_dropLast];omega
theorem Good.at{most s}(h:Good most s)z:Good most { s with at_:=z }:=⟨h.len,h.logs,h.last,h.asc,h.kinds⟩
theorem Good.note{most s}(h:Good most s)n S:Good most (s.note n S):=by
 unfold MSt.note;split
 ·exact⟨h.len,h.logs,h.last,h.asc,h.kinds⟩
 split
 ·exact⟨h.len,h.logs,h.last,h.asc,h.kinds⟩
 exact h
theorem Good.test{most s}(h:Good most s)n S il I:Good most (s.test n S il I):=by
 unfold MSt.test;split
 ·exact⟨h.len,h.logs,h.last,h.asc,h.kinds⟩
 refine Good.fail ?_;split
 ·exact h
 exact h.note n S
theorem Good.enter{most s}(h:Good most s)x:Good most (s.enter x most):=(h.at x.to).push _ (λq=>absurd rfl q) (.inr (.inr rfl))
theorem Good.hold{most s}(h:Good most s)k to(a:k=0\/k=1):Good most (s.hold k to most):=(h.at (s.at_+1)).push _ (λ_=>rfl) (by rcases a with q|q;exact .inl q;exact .inr (.inl q))
theorem uon{most s}(h:Good most s)(i:s.log.length<s.steps)x il I:Good most (s.act x il I most):=by
 have b:∀k a,Good most (s.put k a):=λk a=>by
  refine⟨h.len,?_,λg e f=>?_,h.asc,h.kinds⟩
  ·show(s.log++[_]).length<=s.steps;rw[List.length_append,List.length_singleton];omega
  show g.log<=(s.log++[_]).length;have:=h.last g e f;rw[List.length_append];omega
 unfold MSt.act;by_cases q:x.kind=0
 ·rw[if_pos q];exact h.test _ _ _ _
 rw[if_neg q];clear q;by_cases q:x.kind=1
 ·rw[if_pos q];exact h.hold _ _ (.inl rfl)
 rw[if_neg q];clear q;by_cases q:x.kind=4
 ·rw[if_pos q];exact h.hold _ _ (.inr rfl)
 rw[if_neg q];clear q;by_cases q:x.kind=6
 ·rw[if_pos q];exact h.enter x
 rw[if_neg q];clear q;by_cases q:x.kind=8
 ·rw[if_pos q];by_cases c:s.inNot=true
  ·rw[if_pos c];exact h.fail
  rw[if_neg c];by_cases d:x.to<0
  ·rw[if_pos d];exact⟨h.len,h.logs,h.last,h.asc,h.kinds⟩
  rw[if_neg d];exact Good.enter (s:={ s with throws:=s.throws+1 }) ⟨h.len,h.logs,h.last,h.asc,h.kinds⟩ x
 rw[if_neg q];clear q;by_cases q:x.kind=2/\s.top 0=true
 ·rw[if_pos q];exact h.pop.at _
 rw[if_neg q];clear q;by_cases q:x.kind=3/\s.top 0=true
 ·rw[if_pos q];exact(h.pop.at _).push _ (λ_=>rfl) (.inl rfl)
 rw[if_neg q];clear q;by_cases q:x.kind=5/\s.top 1=true
 ·rw[if_pos q];exact h.pop.fail
 rw[if_neg q];clear q;by_cases q:x.kind=7/\s.top 2=true
 ·rw[if_pos q];exact h.pop.at _
 rw[if_neg q];clear q;by_cases q:x.kind=9
 ·rw[if_pos q];exact b _ _
 rw[if_neg q];clear q;by_cases q:x.kind=10
 ·rw[if_pos q];exact b _ _
 rw[if_neg q];clear q;by_cases q:x.kind=11
 ·rw[if_pos q];exact b _ _
 rw[if_neg q];clear q;by_cases q:x.kind=12/\s.st.length=0
 ·rw[if_pos q];exact h.fin 0
 rw[if_neg q];clear q;exact h.fin 4
theorem ufj{most fuel s n R il I}(h:Good most s):Good most (s.next n R il I fuel most):=by
 unfold MSt.next;split;· exact h.fin 4
 split;· exact h.fin 3
 refine uon (s:={ s with steps:=s.steps+1 }) ⟨h.len,?_,h.last,h.asc,h.kinds⟩ ?_ _ _ _
 ·show s.log.length<=s.steps+1;have:=h.logs;omega
 show s.log.length<s.steps+1;have:=h.logs;omega
theorem ucc{most:Int}{s:MSt}(x:ur)(il:Nat)(I:Nat->Int):(s.act x il I most).steps=s.steps:=by
 have a:∀s:MSt,s.fail.steps=s.steps:=λs=>by unfold MSt.fail;split<;>rfl
 have b:∀(s:MSt) f,(s.push f most).steps=s.steps:=λs f=>by unfold MSt.push;split<;>rfl
 have e:∀(s:MSt) n S,(s.note n S).steps=s.steps:=λs n S=>by unfold MSt.note;split<;>(try split)<;>rfl
 unfold MSt.act;by_cases q:x.kind=0
 ·rw[if_pos q];unfold MSt.test;split
  ·rfl
  rw[a];split
  ·rfl
  exact e _ _ _
 rw[if_neg q];clear q;by_cases q:x.kind=1
 ·rw[if_pos q];first|rfl|exact b _ _|exact a _
 rw[if_neg q];clear q;by_cases q:x.kind=4
 ·rw[if_pos q];first|rfl|exact b _ _|exact a _
 rw[if_neg q];clear q;by_cases q:x.kind=6
 ·rw[if_pos q];first|rfl|exact b _ _|exact a _
 rw[if_neg q];clear q;by_cases q:x.kind=8
 ·rw[if_pos q];by_cases c:s.inNot=true
  ·rw[if_pos c];exact a _
  rw[if_neg c];by_cases d:x.to<0
  ·rw[if_pos d];rfl
  rw[if_neg d];exact b _ _
 rw[if_neg q];clear q;by_cases q:x.kind=2/\s.top 0=true
 ·rw[if_pos q];first|rfl|exact b _ _|exact a _
 rw[if_neg q];clear q;by_cases q:x.kind=3/\s.top 0=true
 ·rw[if_pos q];first|rfl|exact b _ _|exact a _
 rw[if_neg q];clear q;by_cases q:x.kind=5/\s.top 1=true
 ·rw[if_pos q];first|rfl|exact b _ _|exact a _
 rw[if_neg q];clear q;by_cases q:x.kind=7/\s.top 2=true
 ·rw[if_pos q];first|rfl|exact b _ _|exact a _
 rw[if_neg q];clear q;by_cases q:x.kind=9
 ·rw[if_pos q];first|rfl|exact b _ _|exact a _
 rw[if_neg q];clear q;by_cases q:x.kind=10
 ·rw[if_pos q];first|rfl|exact b _ _|exact a _
 rw[if_neg q];clear q;by_cases q:x.kind=11
 ·rw[if_pos q];first|rfl|exact b _ _|exact a _
 rw[if_neg q];clear q;by_cases q:x.kind=12/\s.st.length=0
 ·rw[if_pos q];first|rfl|exact b _ _|exact a _
 rw[if_neg q];clear q;rfl
theorem jX{most fuel:Int}{s:MSt}{n:Nat}{R:Nat->ur}{il:Nat}{I:Nat->Int}(c:s.done=false)(a:(s.steps:Int)<=fuel) :
  (((s.next n R il I fuel most).steps:Int)<=fuel)/\((s.next n R il I fuel most).done=true/\(s.next n R il I fuel most).steps=s.steps\/(s.next n R il I fuel most).steps=s.steps+1):=by
 unfold MSt.next;by_cases q:s.at_<0\/(n:Int)<=s.at_
 ·rw[if_pos q];exact⟨a,.inl ⟨rfl,rfl⟩⟩
 rw[if_neg q];by_cases b:(s.steps:Int)=fuel
 ·rw[if_pos b];exact⟨a,.inl ⟨rfl,rfl⟩⟩
 rw[if_neg b,ucc];exact⟨by show((s.steps+1:Nat):Int)<=fuel;omega,.inr rfl⟩
theorem ufk{n R il I fuel most}:∀(k:Nat) (s:MSt),(s.steps:Int)<=fuel->(fuel-s.steps).toNat<=k->∃t,Ends n R il I fuel most s t
 |k,s,hf,hk=>by
  cases b:s.done with
  |true=>exact⟨s,.over b⟩
  |false =>
   obtain⟨c,a⟩:=jX (n:=n) (R:=R) (il:=il) (I:=I) (most:=most) b hf;rcases a with⟨a,_⟩|a
   ·exact⟨_,.go b (.over a)⟩
   cases k with
   |zero=>omega
   |succ k =>
    obtain⟨t,d⟩:=ufk k _ c (by rw[a];omega);exact⟨t,.go b d⟩
theorem Ends.next{n R il I fuel most s t}(h:Ends n R il I fuel most s t)(a:s.done=false):Ends n R il I fuel most (s.next n R il I fuel most) t:=by
 cases h with
 |over q=>rw[a]at q;cases q
 |go _ q=>exact q
theorem Ends.same{n R il I fuel most s t}(h:Ends n R il I fuel most s t)(a:s.done=true):t=s:=by
 cases h with
 |over q=>rfl
 |go q _=>rw[a]at q;cases q
def ExA(Q:Nat->Prop)(w:World)(b:Option Addr)(a:Nat):Prop:=a<=512/\∃S,Ints Q .i64 w b a S
theorem ExA.later{Q w w' c d}(h:ExA Q w c d)(k:Below w.heap.size w w'):ExA Q w' c d:=let ⟨a,S,b⟩:=h;⟨a,S,b.later k⟩
theorem ExA.wide{Q Q' w c d}(h:ExA Q w c d)(k:∀b,Q b->Q' b):ExA Q' w c d:=let ⟨a,S,b⟩:=h;⟨a,S,b.wide k⟩
theorem ExA.on{Q w w' c d}(h:ExA Q w c d)(k:Stay Q w w'):ExA Q w' c d:=let ⟨a,S,b⟩:=h;⟨a,S,b.on k⟩
theorem ukq{w0 w a c l}(h:OwnL w0 w (.slice a l.length c) l):Ints (New w0 w) .i64 w a l.length (lf l):=by
 obtain⟨P,j,k,n⟩:=h;rcases j with⟨_,e,_⟩|⟨g,cap,e,m,p,o,f,q⟩
 ·exact .inl e
 obtain rfl:a=some ⟨g,0,none⟩:=by injection e
 refine .inr ⟨g,0,rfl,k g m,λi b=>?_⟩;have d:=f i (by simp only[vE,List.length_map];exact b);rw[Nat.zero_add,d];simp only[vE,List.getElem?_map,lf,List.getD_eq_getElem?_getD,List.getElem?_eq_getElem b];rfl
theorem uqm{w0 w a c M}(h:OwnL w0 w (.slice a (rg M 256).length c) (rg M 256)):ExA (New w0 w) w a (rg M 256).length:=⟨ui9 M 256,_,ukq h⟩
theorem uh{w:World}{b o j:Nat}{v u:Value}(a:o≠j)(h:w.cell? ⟨b,o,none⟩=some v):(w.setCell ⟨b,j,none⟩ u).cell? ⟨b,o,none⟩=some v:=(um (λe=>a e.symm)).trans h
structure Tp where
 m:Nat
 T:Nat->Nat
 le:m<=500
 byte:∀i,T i<=255
def Tp.v(t:Tp)(i:Nat):Nat:=if i<t.m then t.T i else 0
def Tp.n(t:Tp)(i:Nat):Nat:=if i<t.m then i+1 else i
theorem Tp.v_le(t:Tp)(i:Nat):t.v i<=255:=by
 unfold Tp.v;split
 ·exact t.byte i
 omega
def opd(k a:Int):OpD:=⟨k,0,λ_=>0,a⟩
def sod(s:List Int):OpD:=⟨1,s.length,lf s,0⟩
def vz(b:Int):List Int:=[b,b]
def uq(k a:Int):List OpD:=[opd k a]
def uF(s:List Int):List OpD:=[sod s]
def unD(k:Int)(x:List OpD):List OpD:=x++[opd k 0]
def uI(k:Int)(x y:List OpD):List OpD:=x++y++[opd k 0]
def yg:List Int:=[10,9,13,92,34,91,93,45,94,32,35,59,0,127,128,255]
def vY(t:Tp)(i:Nat):List Int×Nat :=
 if t.v i%12<7 then (vz (97+t.v i / 12%4:Nat),t.n i)
 else if t.v i%12=7 then ([97,98],t.n i)
 else if t.v i%12=8 then ([0,255],t.n i)
 else if t.v i%12=9 then ([48,57,97,99],t.n i)
 else if t.v i%12=10 then (if 200<t.v i then ([],t.n i) else ([0,96,99,255],t.n i))
 else (vz (lf yg (t.v (t.n i)%16)),t.n (t.n i))
def yh(t:Tp)(at_ b a:Nat):Nat->Bool->Nat->List OpD×Nat
 |0,_,i=>(uF (vY t (t.n i)).1,(vY t (t.n i)).2)
 |d+1,after,i =>
  let k:=t.v i%20
  let j:=t.n i
  let s:=vY t j
  if k<4\/t.m=j then (uF s.1,s.2)
  else if k=4 then (uq 0 0,j)
  else if k<7 then
   let lo:=if after then 0 else at_+1
   if b<=lo then (uF s.1,s.2) else (uq 2 (lo+t.v j%(b-lo):Nat),t.n j)
  else if k<9/\0<a then (uI 5 (uF (vY t (t.n j)).1) (uq 3 (t.v j%a:Nat)),(vY t (t.n j)).2)
  else if k<13 then
   let y:=yh t at_ b a d true s.2
   (uI 4 (uF s.1) y.1,y.2)
  else if k<16 then
   let x:=yh t at_ b a d after j
   let y:=yh t at_ b a d after x.2
   (uI (if k=13 then 4 else 5) x.1 y.1,y.2)
  else if k<18 then
   let c:=t.v s.2%3
   if c=0 then (unD 6 (uF s.1),t.n s.2)
   else
    let y:=yh t at_ b a d (c==1) (t.n s.2)
    (if c=1 then unD 6 (uI 4 (uF s.1) y.1) else unD 6 (uI 4 (unD 7 y.1) (uF s.1)),y.2)
  else if k=18 then
   let y:=yh t at_ b a d after j
   (unD 7 y.1,y.2)
  else if 0<t.v j%4 then
   let x:=vY t (t.n j)
   let y:=yh t at_ b a d true x.2
   (unD 6 (uI 5 (uF x.1) (uI 4 (uF x.1) y.1)),y.2)
  else
   let y:=yh t at_ b a d after (t.n j)
   (unD 6 y.1,y.2)
def Lil(n:Nat)(l:List OpD):Prop:=l.length<=n/\∀x∈l,x.sl<=16
theorem Lil.mono{n m l}(h:Lil n l)(a:n<=m):Lil m l:=⟨Nat.le_trans h.1 a,h.2⟩
theorem xB k a:Lil 1 (uq k a):=⟨Nat.le_refl _,λx b=>by obtain rfl:=List.mem_singleton.1 b;exact Nat.zero_le _⟩
theorem jN{s}(h:s.length<=16):Lil 1 (uF s):=⟨Nat.le_refl _,λx a=>by obtain rfl:=List.mem_singleton.1 a;exact h⟩
theorem qB{n x}k(h:Lil n x):Lil (n+1) (unD k x):=by
 refine⟨?_,λy a=>?_⟩
 ·have:=h.1;unfold unD;simp;omega
 rcases List.mem_append.1 a with q|q
 ·exact h.2 y q
 obtain rfl:=List.mem_singleton.1 q;exact Nat.zero_le _
theorem yo{n m x y}k(h:Lil n x)(a:Lil m y):Lil (n+m+1) (uI k x y):=by
 refine⟨?_,λz b=>?_⟩
 ·have:=h.1;have:=a.1;unfold uI;simp;omega
 rcases List.mem_append.1 b with q|q
 ·rcases List.mem_append.1 q with q|q
  ·exact h.2 z q
  exact a.2 z q
 obtain rfl:=List.mem_singleton.1 q;exact Nat.zero_le _
theorem vB t i:(vY t i).1.length<=4:=by
 unfold vY;repeat' split
 all_goals simp[vz]
def big:Nat->Nat
 |0=>1
 |d+1=>2*big d+5
theorem xS t at_ f e:∀(d:Nat) (c:Bool) (i:Nat),Lil (big d) (yh t at_ f e d c i).1
 |0,_,i=>jN (Nat.le_trans (vB _ _) (by omega))
 |d+1,c,i=>by
  have b:=xS t at_ f e d;have a:∀i,Lil 1 (uF (vY t i).1):=λi=>jN (Nat.le_trans (vB _ _) (by omega))
  have g:big (d+1)=2*big d+5:=rfl;rw[g,yh];dsimp only;repeat' split
  all_goals first
   |exact(a _).mono (by omega)
   |exact(xB _ _).mono (by omega)
   |exact(yo _ (a _) (xB _ _)).mono (by omega)
   |exact(yo _ (a _) (b _ _)).mono (by omega)
   |exact(yo _ (b _ _) (b _ _)).mono (by omega)
   |exact(qB _ (a _)).mono (by omega)
   |exact(qB _ (yo _ (a _) (b _ _))).mono (by omega)
   |exact(qB _ (yo _ (qB _ (b _ _)) (a _))).mono (by omega)
   |exact(qB _ (yo _ (a _) (yo _ (a _) (b _ _)))).mono (by omega)
   |exact(qB _ (b _ _)).mono (by omega)
end Go.Proofs.YtimfigongapdnaaGreat
