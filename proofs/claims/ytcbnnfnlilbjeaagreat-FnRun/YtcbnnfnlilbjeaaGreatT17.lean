import Derived.Test.YtcbnnfnlilbjeaaGreatT10
import Derived.Test.YtcbnnfnlilbjeaaGreatT16
set_option linter.unusedVariables false
set_option linter.unusedSimpArgs false
namespace Go.Proofs.YtcbnnfnlilbjeaaGreat
section
open Go.RowKit
open M (OpD NodeD Gr InsD EX ins emit wsum)
set_option maxHeartbeats 2000000 in
theorem twoOperands_any(b o n c:Nat)(T:Nat→OpD)(w:World)(Q:Nat→Prop)(hB:∀i,i<n→OpC Q w b (o+i*3) (T i))(hn:n≤1048576)(hc:n≤c)(s:Nat)(hs:s<n)
  (h1:M.dep T s+1=M.dep T n) (h2:∀j,s<j→j≤n→M.dep T n≤M.dep T j) :
  Calls Tryz.prog 79 #[.slice (some ⟨b,o,none⟩) n c] w fun en w'=>en=.returned (.tuple #[.slice (some ⟨b,o,none⟩) s c,.slice (some ⟨b,o+s*3,none⟩) (n-s) (c-s)])∧Below w.heap.size w w':=by
 have HB:Hid (∀i,i<n→OpC Q w b (o+i*3) (T i)):=hB;have H1:Hid (M.dep T s+1=M.dep T n):=h1;have H2:Hid (∀j,s<j→j≤n→M.dep T n≤M.dep T j):=h2;clear hB h1 h2;go_enter Tryz.func79,Tryz.ntmps79;go_wp2;go_loopw [5,4] (fun d i wr=>startI w T s n d i wr) (fun d i _=>(intOf i).toNat)
 case atStart=>exact⟨n,by omega,Nat.le_refl _,val_int (by omega),rfl,rfl⟩
 case round =>
  obtain⟨k,hk,hke,rfl,rfl,rfl⟩:=hrel;by_cases hlt:s<k
  ·have hd:=H2.out k hlt hke
   have hd2:=dep_back T k n hke;obtain⟨q,rfl⟩:∃q,k=q+1:=⟨k-1,by omega⟩
   obtain⟨c0,⟨sa,sc,c1,hss⟩,c2⟩:=HB.out q (by omega)
   have har:=M.ar_bd (T q).kind;have HST:Hid (M.dep T (q+1)=M.dep T q+(1-M.ar (T q).kind)):=rfl;clear hss;have x1:(0:Int)<((q+1:Nat):Int):=by omega
   have x2:(0:Int)<1-M.dep T n+M.dep T (q+1):=by omega
   have x3:((q+1:Nat):Int)-1=(q:Int):=by omega
   have x4:(q:Int)<n:=by omega
   go_wp2_with (go_at_call 101;refine (operandsOf_any _ _).mono ?_;rintro e W ⟨rfl,hw⟩;subst W);go_roundw
   case rel=>exact⟨q,by omega,by omega,val_int (by have:=HST.out;omega),by first|rfl | go_num,by trivial⟩
   case measure=>simp[intOf]<;>omega
  ·obtain rfl:k=s:=by omega
   have x2:1-M.dep T n+M.dep T k=0:=by have:=H1.out;omega
   have z1:¬c=k:=by omega
   have z2:k≤n:=by omega
   have z3:k≤c:=by omega
   have z4:¬c=0:=by omega
   have z5:(k:Int)≤(n:Int):=by omega
   have z7:=wrap_small k (by omega)
   rw[x2];go_wp2;go_region;all_goals go_wp2
   all_goals refine bodyPost_ret (by simp[results,Tryz.f79,go_sem];rfl) rfl ?_
   all_goals exact⟨rfl,(Below.refl _ _).drew⟩
def ExpIs(w0:World)(cb:Nat)(u0 u1:Value)(L:List IC)(fl:List Int)(x:EX)(e:Ending)(w':World):Prop :=
 (∃v,e=.returned v)∧∃K:List IC,K.map IC.d=emit (fun n=>(n:Int)) x L.length∧CS w0 cb u0 u1 (L++K) [] fl w'
theorem exp_len{K:List IC}{r:Nat→Int}{x:EX}{p:Nat}(h:K.map IC.d=emit r x p):K.length=x.len:=by
 rw[←List.length_map (f:=IC.d),h,M.emit_len]
theorem enter78(args:Array Value)(w:World):(callFunc 78 args).run Tryz.prog w=.ok (.enter 78 args) w:=by
 simp[callFunc,Tryz.func78,Tryz.f78,go_sem]
theorem enter21(args:Array Value)(w:World):(callFunc 21 args).run Tryz.prog w=.ok (.enter 21 args) w:=by
 simp[callFunc,Tryz.func21,Tryz.f21,go_sem]
theorem put_any(w0:World)(cb:Nat)(u0 u1:Value)(l:List IC)(fl:List Int)(w:World)(k a t:Int)(h:CS w0 cb u0 u1 l [] fl w)(hl:l.length≤200000) :
  Calls Tryz.prog 21 #[.pointer (some ⟨cb,0,none⟩),.agg #[.int .i64 k,.int .i64 a,.int .i64 t,.slice none 0 0]] w fun e w'=>e=.returned (.int .i64 (l.length:Int))∧Hid (CS w0 cb u0 u1 (l++[ic k a t]) [] fl w'):=by
 obtain⟨P,F,S,vp,vf,h⟩:=h.plain k a t;refine (put_cp w0 cb u0 u1 l (ic k a t) fl w P F S vp vf h hl).mono ?_;rintro e w' ⟨rfl,P',vp',h'⟩;exact⟨rfl,P',F,S,vp',vf,h'⟩
theorem put_set(w0:World)(cb:Nat)(u0 u1:Value)(l:List IC)(fl:List Int)(w:World)(x:IC)(h:CS w0 cb u0 u1 l [x] fl w)(hl:l.length≤200000) :
  Calls Tryz.prog 21 #[.pointer (some ⟨cb,0,none⟩),.agg #[.int .i64 x.d.kind,.int .i64 x.d.arg,.int .i64 x.d.to,.slice x.a x.d.sl x.c]] w fun e w'=>e=.returned (.int .i64 (l.length:Int))∧Hid (CS w0 cb u0 u1 (l++[x]) [] fl w'):=by
 obtain⟨P,F,S,vp,vf,h⟩:=h;refine (put_cp w0 cb u0 u1 l x fl w P F S vp vf h hl).mono ?_;rintro e w' ⟨rfl,P',vp',h'⟩;exact⟨rfl,P',F,S,vp',vf,h'⟩
end
section
open Go.RowKit
open M (OpD NodeD Gr InsD EX ins emit wsum)
set_option maxRecDepth 100000 in
set_option maxHeartbeats 16000000 in
theorem pex_empty(w0:World)(cb:Nat)(Q:Nat→Prop)(ra la:Option Addr)(rc lc:Nat)(g:Gr)(h1:g.nr≤100)(h2:g.nb≤100)(b off N:Nat)(B:Nat→OpD)(hN:N≤2000)
  (hok:∀i,i<N→M.ElemOK g.nr g.nb (B i)) (hB:∀i,i<N→OpC Q w0 b (off+i*3) (B i)) (q:Nat) (ih:∀m,m<q+1→∀(lo o c l:Nat) (x:EX) (L:List IC) (fl:List Int) (w:World),m≤N→M.Fed B m→M.stk (M.nodeE g.nr) B m=(lo,x)::M.stk (M.nodeE g.nr) B lo→o=off+lo*3→l+lo=m→l≤c →
   CS w0 cb (.slice ra g.nr rc) (.slice la g.nb lc) L [] fl w→L.length+x.len≤100000 →
   Calls Tryz.prog 50 #[.pointer (some ⟨cb,0,none⟩),.slice (some ⟨b,o,none⟩) l c] w (ExpIs w0 cb (.slice ra g.nr rc) (.slice la g.nb lc) L fl x)) (hkd:(B q).kind=0):∀(lo o c l:Nat) (x:EX) (L:List IC) (fl:List Int) (w:World),(q+1)≤N→M.Fed B (q+1)→M.stk (M.nodeE g.nr) B (q+1)=(lo,x)::M.stk (M.nodeE g.nr) B lo→o=off+lo*3→l+lo=(q+1)→l≤c →
   CS w0 cb (.slice ra g.nr rc) (.slice la g.nb lc) L [] fl w→L.length+x.len≤100000 →
   Calls Tryz.prog 50 #[.pointer (some ⟨cb,0,none⟩),.slice (some ⟨b,o,none⟩) l c] w (ExpIs w0 cb (.slice ra g.nr rc) (.slice la g.nb lc) L fl x):=by
 intro lo o c l x L fl w hle hF hst ho hl hc hC hpb;obtain⟨hlo,_,_⟩:=M.stk_cons _ B (q+1) hF lo x _ hst;have IH:Hid (∀m,m<q+1→∀(lo o c l:Nat) (x:EX) (L:List IC) (fl:List Int) (w:World),m≤N→M.Fed B m→M.stk (M.nodeE g.nr) B m=(lo,x)::M.stk (M.nodeE g.nr) B lo→o=off+lo*3→l+lo=m→l≤c →
   CS w0 cb (.slice ra g.nr rc) (.slice la g.nb lc) L [] fl w→L.length+x.len≤100000 →
   Calls Tryz.prog 50 #[.pointer (some ⟨cb,0,none⟩),.slice (some ⟨b,o,none⟩) l c] w (ExpIs w0 cb (.slice ra g.nr rc) (.slice la g.nb lc) L fl x)):=ih
 have HB:Hid (∀i,i<N→OpC Q w0 b (off+i*3) (B i)):=hB;have HK:Hid (∀i,i<N→M.ElemOK g.nr g.nb (B i)):=hok;have HF:Hid (M.Fed B (q+1)):=hF;have HS:Hid (M.stk (M.nodeE g.nr) B (q+1)=(lo,x)::M.stk (M.nodeE g.nr) B lo):=hst;have HC:Hid (CS w0 cb (.slice ra g.nr rc) (.slice la g.nb lc) L [] fl w):=hC;obtain⟨m,rfl⟩:∃m,l=m+1:=⟨l-1,by omega⟩
 have hm:m+lo=q:=by omega
 obtain⟨c0,⟨sa,sc,c1,hss⟩,c2⟩:=(hB q (by omega)).later hC.bel
 have eo:off+q*3=o+m*3:=by omega
 rw[eo]at c0 c1 c2;have hbl:b<w.heap.size:=lt_of_cell c0;have hE:=hok q (by omega)
 have HE:Hid (M.ElemOK g.nr g.nb (B q)):=hE;have k0:=hE.1;have k7:=hE.2.1;have ha0:0≤(B q).arg:=hE.2.2.2.2.1;have HSS:Hid (Ints Q .i64 w sa (B q).sl (B q).set):=hss;have x2:((m+1:Nat):Int)-1=(m:Int):=by omega
 have x3:(m:Int)<((m+1:Nat):Int):=by omega
 have x4:m+1≤2000:=by omega
 have x5:(m:Int)≤((m+1:Nat):Int):=by omega
 have hll:lo<q+1:=hlo;have HPB:Hid (L.length+x.len≤100000):=hpb;have hpp:L.length≤100000:=by omega
 have z6:=wrap_small m (by omega)
 have hcm:m<c:=by omega
 have hcm':m≤c:=by omega
 have hcz:¬c=0:=by omega
 clear hB hok hF hst ih hss hE hC hpb;have HO:Hid (o=off+lo*3):=ho;have HMM:Hid (m+lo=q):=hm;clear ho hm hl;have n1:((B q).kind==1)=false:=by simp[hkd]
 have n2:((B q).kind==2)=false:=by simp[hkd]
 have n3:((B q).kind==3)=false:=by simp[hkd]
 have n4:((B q).kind==4)=false:=by simp[hkd]
 have n5:((B q).kind==5)=false:=by simp[hkd]
 have n6:((B q).kind==6)=false:=by simp[hkd]
 have n7:((B q).kind==7)=false:=by simp[hkd]
 have HX:Hid (x=.empty):=by show _=_;rw[leaf_splitG _ B q lo x (by simp[M.ar,hkd]) HS.out];simp[M.nodeE,hkd]
 clear hkd;go_enter Tryz.func50,Tryz.ntmps50;go_wp2;go_region;all_goals go_wp2
 all_goals go_end0
 all_goals exact⟨⟨_,rfl⟩,[],by rw[HX.out];rfl,by rw[List.append_nil];exact HC.out.later ((Below.refl _ w).drew.trans (bel1 w.drew _))⟩
set_option maxRecDepth 100000 in
set_option maxHeartbeats 16000000 in
theorem pex_set(w0:World)(cb:Nat)(Q:Nat→Prop)(ra la:Option Addr)(rc lc:Nat)(g:Gr)(h1:g.nr≤100)(h2:g.nb≤100)(b off N:Nat)(B:Nat→OpD)(hN:N≤2000)
  (hok:∀i,i<N→M.ElemOK g.nr g.nb (B i)) (hB:∀i,i<N→OpC Q w0 b (off+i*3) (B i)) (q:Nat) (ih:∀m,m<q+1→∀(lo o c l:Nat) (x:EX) (L:List IC) (fl:List Int) (w:World),m≤N→M.Fed B m→M.stk (M.nodeE g.nr) B m=(lo,x)::M.stk (M.nodeE g.nr) B lo→o=off+lo*3→l+lo=m→l≤c →
   CS w0 cb (.slice ra g.nr rc) (.slice la g.nb lc) L [] fl w→L.length+x.len≤100000 →
   Calls Tryz.prog 50 #[.pointer (some ⟨cb,0,none⟩),.slice (some ⟨b,o,none⟩) l c] w (ExpIs w0 cb (.slice ra g.nr rc) (.slice la g.nb lc) L fl x)) (hkd:(B q).kind=1):∀(lo o c l:Nat) (x:EX) (L:List IC) (fl:List Int) (w:World),(q+1)≤N→M.Fed B (q+1)→M.stk (M.nodeE g.nr) B (q+1)=(lo,x)::M.stk (M.nodeE g.nr) B lo→o=off+lo*3→l+lo=(q+1)→l≤c →
   CS w0 cb (.slice ra g.nr rc) (.slice la g.nb lc) L [] fl w→L.length+x.len≤100000 →
   Calls Tryz.prog 50 #[.pointer (some ⟨cb,0,none⟩),.slice (some ⟨b,o,none⟩) l c] w (ExpIs w0 cb (.slice ra g.nr rc) (.slice la g.nb lc) L fl x):=by
 intro lo o c l x L fl w hle hF hst ho hl hc hC hpb;obtain⟨hlo,_,_⟩:=M.stk_cons _ B (q+1) hF lo x _ hst;have IH:Hid (∀m,m<q+1→∀(lo o c l:Nat) (x:EX) (L:List IC) (fl:List Int) (w:World),m≤N→M.Fed B m→M.stk (M.nodeE g.nr) B m=(lo,x)::M.stk (M.nodeE g.nr) B lo→o=off+lo*3→l+lo=m→l≤c →
   CS w0 cb (.slice ra g.nr rc) (.slice la g.nb lc) L [] fl w→L.length+x.len≤100000 →
   Calls Tryz.prog 50 #[.pointer (some ⟨cb,0,none⟩),.slice (some ⟨b,o,none⟩) l c] w (ExpIs w0 cb (.slice ra g.nr rc) (.slice la g.nb lc) L fl x)):=ih
 have HB:Hid (∀i,i<N→OpC Q w0 b (off+i*3) (B i)):=hB;have HK:Hid (∀i,i<N→M.ElemOK g.nr g.nb (B i)):=hok;have HF:Hid (M.Fed B (q+1)):=hF;have HS:Hid (M.stk (M.nodeE g.nr) B (q+1)=(lo,x)::M.stk (M.nodeE g.nr) B lo):=hst;have HC:Hid (CS w0 cb (.slice ra g.nr rc) (.slice la g.nb lc) L [] fl w):=hC;obtain⟨m,rfl⟩:∃m,l=m+1:=⟨l-1,by omega⟩
 have hm:m+lo=q:=by omega
 obtain⟨c0,⟨sa,sc,c1,hss⟩,c2⟩:=(hB q (by omega)).later hC.bel
 have eo:off+q*3=o+m*3:=by omega
 rw[eo]at c0 c1 c2;have hbl:b<w.heap.size:=lt_of_cell c0;have hE:=hok q (by omega)
 have HE:Hid (M.ElemOK g.nr g.nb (B q)):=hE;have k0:=hE.1;have k7:=hE.2.1;have ha0:0≤(B q).arg:=hE.2.2.2.2.1;have HSS:Hid (Ints Q .i64 w sa (B q).sl (B q).set):=hss;have x2:((m+1:Nat):Int)-1=(m:Int):=by omega
 have x3:(m:Int)<((m+1:Nat):Int):=by omega
 have x4:m+1≤2000:=by omega
 have x5:(m:Int)≤((m+1:Nat):Int):=by omega
 have hll:lo<q+1:=hlo;have HPB:Hid (L.length+x.len≤100000):=hpb;have hpp:L.length≤100000:=by omega
 have z6:=wrap_small m (by omega)
 have hcm:m<c:=by omega
 have hcm':m≤c:=by omega
 have hcz:¬c=0:=by omega
 clear hB hok hF hst ih hss hE hC hpb;have HO:Hid (o=off+lo*3):=ho;have HMM:Hid (m+lo=q):=hm;clear ho hm hl;have f1:((B q).kind==1)=true:=by simp[hkd]
 have n2:((B q).kind==2)=false:=by simp[hkd]
 have n3:((B q).kind==3)=false:=by simp[hkd]
 have n4:((B q).kind==4)=false:=by simp[hkd]
 have n5:((B q).kind==5)=false:=by simp[hkd]
 have n6:((B q).kind==6)=false:=by simp[hkd]
 have n7:((B q).kind==7)=false:=by simp[hkd]
 have HX:Hid (x=.set (B q).sl (B q).set):=by show _=_;rw[leaf_splitG _ B q lo x (by simp[M.ar,hkd]) HS.out];simp[M.nodeE,hkd]
 have hsl:(B q).sl≤1048576:=by have:=canonLen (HE.out.2.2.1 hkd);omega
 have HX1:Hid (CS w0 cb (.slice ra g.nr rc) (.slice la g.nb lc) L [] fl (w.drew.alloc (.cells #[.int .i64 (B q).kind,.slice sa (B q).sl sc,.int .i64 (B q).arg] 77))):=HC.out.later ((Below.refl _ w).drew.trans (bel1 w.drew _));have HI1:Hid (Ints Q .i64 (w.drew.alloc (.cells #[.int .i64 (B q).kind,.slice sa (B q).sl sc,.int .i64 (B q).arg] 77)) sa (B q).sl (B q).set):=HSS.out.later ((Below.refl _ w).drew.trans (bel1 w.drew _));clear hkd;go_enter Tryz.func50,Tryz.ntmps50;go_wp2;go_region;all_goals go_wp2_with fail
 all_goals (
  refine (sliceClone_any Q sa (B q).sl sc (B q).set _ HI1.out hsl).mono ?_;rintro e W1 ⟨⟨a',c',rfl,hI⟩,hb,hso⟩;have HF1:Hid (CS w0 cb (.slice ra g.nr rc) (.slice la g.nb lc) L [⟨⟨0,0,0,(B q).sl,(B q).set⟩,a',c'⟩] fl W1):=HX1.out.fresh hb ⟨⟨0,0,0,(B q).sl,(B q).set⟩,a',c'⟩ hI hso;clear hI hb hso;go_wp2_with fail;refine (put_set w0 cb _ _ L fl W1 ⟨⟨0,0,0,(B q).sl,(B q).set⟩,a',c'⟩ HF1.out (by omega)).mono ?_
  rintro e W2 ⟨rfl,HC2⟩;go_wp2;go_end0;exact⟨⟨_,rfl⟩,[⟨⟨0,0,0,(B q).sl,(B q).set⟩,a',c'⟩],by rw[HX.out];rfl,HC2.out⟩)
end
end Go.Proofs.YtcbnnfnlilbjeaaGreat
