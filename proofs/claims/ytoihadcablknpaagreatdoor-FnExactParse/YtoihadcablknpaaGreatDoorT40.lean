import Derived.Stop.Asserts
import Derived.RowKitTokens
import Derived.Test.YtoihadcablknpaaGreatDoorT22
set_option linter.unusedVariables false
set_option linter.unusedSimpArgs false
set_option linter.defProp false
set_option maxHeartbeats 40000000
set_option maxRecDepth 100000
namespace Go.Proofs.YtoihadcablknpaaGreatDoor
open Go.RowKit
open Go.Proofs.Tryz
section
open Go.RowKit Go.Extern.Stop Go.Stop Go.Extern
abbrev Gy(T:TypeId):Vl:=.agg #[.pointer (Sm 5 T)]
abbrev Ep(T:TypeId)(a:Addr)(f:Int):Vl:=.agg #[.pointer (Sm 5 T),.pointer (some a),Uv f]
structure Je(pT T:TypeId):Prop where
 k:∀(t:Addr) (w:Wl),(ReflectliteValue.unpack (.iface pT (.pointer (some t)))).run Tryz.prog w=.ok (Ep pT (Ad w.heap.size 0) 150) (w.alloc (Oc #[.pointer (some t)] pT))
 i : ∀ (a : Addr) (w : World), (ReflectliteValue.methodAny (ReflectliteValue.valueError "reflectlite.Value.Type" 0) (fun t _ _ _ => ReflectliteType.toType t) #[Ep pT a 150]).run Tryz.prog w = .ok (.iface 217 (Gy pT)) w
 kp:∀w:Wl,((ReflectliteType.abiMethod λt=>(λa:Nat=>Value.int IntKind.u8 (a:Int)) <$> Rtype.kind t) #[.pointer (Sm 5 pT)]).run Tryz.prog w=.ok (Bv 22) w
 kt:∀w:Wl,((ReflectliteType.abiMethod λt=>(λa:Nat=>Value.int IntKind.u8 (a:Int)) <$> Rtype.kind t) #[.pointer (Sm 5 T)]).run Tryz.prog w=.ok (Bv 25) w
 el:∀w:Wl,(ReflectliteType.method ReflectliteType.elem #[Gy pT]).run Tryz.prog w=.ok (.iface 217 (Gy T)) w
 im : ∀ w : World, (ReflectliteType.relation "Implements" ReflectliteType.implements_ #[Gy T, .iface 217 (Gy 56)]).run Tryz.prog w = .ok (.bool true) w
 e:∀(a:Addr) (w:Wl),(ReflectliteValue.parts (Ep pT a 150)).run Tryz.prog w=.ok (some (pT,a,150)) w
 c:Tryz.prog.underlying pT=some (.pointer T)
 g:∀w:Wl,(Rtype.elem? pT).run Tryz.prog w=.ok (some T) w
 h:∀(p:Addr) (w:Wl),(ReflectliteValue.mk T p ReflectliteValue.flagAddr).run Tryz.prog w=.ok (Ep T p 409) w
 b : ∀ w : World, (ReflectliteType.relation "AssignableTo" ReflectliteType.assignableTo #[Gy 104, .iface 217 (Gy T)]).run Tryz.prog w = .ok (.bool false) w
def Qq:Je 115 113:=by constructor<;>intros<;>kernel_rfl
def Sz:Je 118 117:=by constructor<;>intros<;>kernel_rfl
def Xc:Je 119 108:=by constructor<;>intros<;>kernel_rfl
def ER:Je 122 121:=by constructor<;>intros<;>kernel_rfl
structure Ow(C:TypeId):Prop where
 a:∀(v:Vl) (w:Wl),(Instr.typeAssert (.iface C v) 56 222 true).run prog w=.ok (.tuple #[.nilIface,Bf]) w
 b:∀(v:Vl) (w:Wl),(Instr.typeAssert (.iface C v) 56 225 true).run prog w=.ok (.tuple #[.nilIface,Bf]) w
 c:∀(v:Vl) (w:Wl),(Instr.typeAssert (.iface C v) 56 227 true).run prog w=.ok (.tuple #[.nilIface,Bf]) w
 ty:∀(v:Vl) (w:Wl),(ReflectliteType.typeOf #[.iface C v]).run prog w=.ok (.iface 217 (Gy C)) w
structure Gm(C T:TypeId)(b:Bool):Prop where
 l:Ow C
 a : ∀ w : World, (ReflectliteType.relation "AssignableTo" ReflectliteType.assignableTo #[Gy C, .iface 217 (Gy T)]).run Tryz.prog w = .ok (.bool b) w
def ES h w n : (Go.method (n + 1) 217 (.agg #[h]) "AssignableTo").run Tryz.prog w = .ok (301, .agg #[h]) w := by kernel_rfl
def UJ h w n : (Go.method (n + 1) 217 (.agg #[h]) "Kind").run Tryz.prog w = .ok (286, h) w := by kernel_rfl
def UK h w n : (Go.method (n + 1) 217 (.agg #[h]) "Elem").run Tryz.prog w = .ok (303, .agg #[h]) w := by kernel_rfl
def UL h w n : (Go.method (n + 1) 217 (.agg #[h]) "Implements").run Tryz.prog w = .ok (304, .agg #[h]) w := by kernel_rfl
def ET x y w n : (Go.method (n + 1) 104 (.agg #[x, y]) "Unwrap").run Tryz.prog w = .ok (291, .agg #[x, y]) w := by kernel_rfl
def EU v w:(ReflectliteType.typeOf #[.iface 104 v]).run prog w=.ok (.iface 217 (Gy 104)) w:=rR
def EV v w:(Instr.typeAssert (.iface 104 v) 56 222 true).run prog w=.ok (.tuple #[.nilIface,Bf]) w:=run_typeAssert_lacksB underlying222 rR rR v 56 w
def EW v w:(Instr.typeAssert (.iface 104 v) 56 225 true).run prog w=.ok (.tuple #[.iface 104 v,Bt]) w:=run_typeAssert_hasB underlying225 rR v 56 w
section
variable {pT T C:TypeId} {a p t:Addr} {W w:Wl} {st:ByteArray} {v:Vl} {P:Ew}
def Je.f (h : Je pT T) (ha : W.cell? a = some (.pointer (some p))) : (ReflectliteValue.method (ReflectliteValue.valueError "reflectlite.Value.IsNil" 0) ReflectliteValue.isNil #[Ep pT a 150]).run Tryz.prog W = .ok (.bool false) W := by
 show(bind (ReflectliteValue.parts (Ep pT a 150)) _).run _ _=_;simp only[Fa,h.e,Result.andThen];simp[ReflectliteValue.isNil,loadVar,isAgg,underlying,h.c,ha,Result.andThen]
def Je.d (h : Je pT T) (ha : W.cell? a = some (.pointer (some p))) : (ReflectliteValue.method (ReflectliteValue.valueError "reflectlite.Value.Elem" 0) ReflectliteValue.elem #[Ep pT a 150]).run Tryz.prog W = .ok (Ep T p 409) W := by
 show(bind (ReflectliteValue.parts (Ep pT a 150)) _).run _ _=_;simp only[Fa,h.e,Result.andThen];simp[ReflectliteValue.elem,loadVar,isAgg,underlying,h.c,ha,Result.andThen,h.g,h.h]
def EY:=@run_callFunc_extern prog 118 _ ReflectliteType.typeOf func118 rR rR rR rR
def EZ := @run_callFunc_extern Tryz.prog 301 _ (ReflectliteType.relation "AssignableTo" ReflectliteType.assignableTo) Tryz.func301 (by kernel_rfl) (by kernel_rfl) (by kernel_rfl) (by kernel_rfl)
def Xd:=@run_callFunc_extern prog 78 _ (λargs=>ReflectliteValue.unpack (args.getD 0 (.tuple #[]))) func78 rR rR rR rR
def UM := @run_callFunc_extern Tryz.prog 119 _ (ReflectliteValue.method (ReflectliteValue.valueError "reflectlite.Value.Elem" 0) ReflectliteValue.elem) Tryz.func119 (by kernel_rfl) (by kernel_rfl) (by kernel_rfl) (by kernel_rfl)
def UN:=@run_callFunc_extern prog 120 _ ReflectliteValue.set func120 rR rR rR rR
def UO(h:Je pT T)(d:Gm C T false)(f:Vl):Cs 81 #[.iface 104 (.agg #[.string st,.iface C v]),f,Ep pT a 150,.iface 217 (Gy T)] w (λe w'=>e=Rt Bf/\Kf w w'):=by
 have i:=EY;have m:=EZ;have g:=h.b;have j:=d.a;have k:=d.l.ty;have n:=EU;have o:=EV;have p:=EW;have q:=d.l.a;have r:=d.l.b;have s:=d.l.c;have t:=ES;have u:=ET;go_enter func81,ntmps81;go_wp2;refine wp_loop_rounds 2 ?_;rw[rounds_succ];go_wp2;rw[rounds_succ];go_wp2;go_ret;exact⟨rfl,wU.c wU⟩
structure Mg(T:TypeId)(xs:Av):Prop where
 k:∀w:Wl,(ReflectliteValue.unpack (.iface T (.agg xs))).run prog w=.ok (Ep T (Ad w.heap.size 0) 153) (w.alloc (Oc xs T))
 set:∀(b q:Nat) (ys:Av) (W:Wl),wJ W b ys->wJ W q xs->ys.size=xs.size->b≠q->∃W',(ReflectliteValue.set #[Ep T (Ad b 0) 409,Ep T (Ad q 0) 153]).run prog W=.ok (.tuple #[]) W'/\wJ W' b xs/\wA (λx=>x=b) W W'
def UP{xs ys:Av}{b q:Nat}(h:Je pT T)(n:Gm T T true)(m:Mg T xs)(u:Vl)(j:wJ w b ys)(r:ys.size=xs.size)(o:w.cell? (Ad q 0)=some (Pt b 0)) :
  Cs 81 #[.iface 104 (.agg #[.string st,.iface T (.agg xs)]),u,Ep pT (Ad q 0) 150,.iface 217 (Gy T)] w (λe w'=>e=Rt Bt/\wJ w' b xs/\wA (λx=>x=b) w w'):=by
 generalize f:((w.alloc (Oc #[.pointer (Sm 5 pT),.pointer (Sm q 0),Uv 150] 150)).alloc (Oc #[.string st,.iface T (.agg xs)] 104))=V;have g:Kf w V:=f▸wU.c wU;have i:=j.a (g.d _ j.x.2.2 id);have s:=(zI (a:=(Ad q 0)) (g.d q (ud o) id)).trans o;obtain⟨W',r1,r2,t⟩:=m.set b V.heap.size ys (V.alloc (Oc xs T)) (i.al _) Cm r (oH i.x.2.2);have p:Hid (wJ W' b xs/\wA (λx=>x=b) w W'):=⟨r2,(g.l (λ_ q=>q.elim)).c (wU.c t)⟩;have v:V.cell? (Ad w.heap.size 0)=some (Pt 5 pT)/\V.cell? (Ad w.heap.size 1)=some (Pt q 0)/\V.cell? (Ad w.heap.size 2)=some (Uv 150):=by
  have:=((um w #[.pointer (Sm 5 pT),.pointer (Sm q 0),Uv 150] 150).al (Oc #[.string st,.iface T (.agg xs)] 104));rw[f]at this;exact⟨this.x.1 0,this.x.1 1,this.x.1 2⟩
 obtain⟨P,Q,R⟩:=v;have u1:=f▸(uV _ _ 104 (w.heap.size+1) sM).x.1 1;have z:=EY;have E:=EZ;have J:=Xd;have A:=UM;have B:=UN;have y:=h.b;have C:=n.a;have D:=n.l.ty;have F:=EU;have G:=EV;have H:=EW;have I:=h.d s;have L:=m.k;have N:=ES;have O:=ET;go_enter func81,ntmps81;go_wp2;refine wp_loop_rounds 2 ?_;rw[rounds_succ];go_wp2;rw[rounds_succ];go_wp2;go_ret;exact⟨rfl,p⟩
end
def FA{T b q xs W W'}(c:∀(a:Addr) (w:Wl),(ReflectliteValue.parts (Ep T a 409)).run prog w=.ok (some (T,a,409)) w)(d:∀(a:Addr) (w:Wl),(ReflectliteValue.parts (Ep T a 153)).run prog w=.ok (some (T,a,153)) w)(e:∀w:Wl,(Rtype.directlyAssignable T T).run prog w=.ok true w)(f:(loadVar T (Ad q 0)).run prog W=.ok (.agg xs) W)(g:(storeVar T (Ad b 0) (.agg xs)).run prog W=.ok () W') :
  (ReflectliteValue.set #[Ep T (Ad b 0) 409,Ep T (Ad q 0) 153]).run prog W=.ok (.tuple #[]) W':=by
 show(bind (ReflectliteValue.parts (Ep T (Ad b 0) 409)) λx=>bind (ReflectliteValue.parts (Ep T (Ad q 0) 153)) _).run _ _=_;simp only[Fa,c,d,Result.andThen];simp[ReflectliteValue.flagAddr,e,f,g,Result.andThen]
structure FB(T:TypeId)(xs:Av):Prop where
 h0:∀w:Wl,(ReflectliteValue.unpack (.iface T (.agg xs))).run prog w=.ok (Ep T (Ad w.heap.size 0) 153) (w.alloc (Oc xs T))
 h1:∀(a:Addr) (w:Wl),(ReflectliteValue.parts (Ep T a 409)).run prog w=.ok (some (T,a,409)) w
 h2:∀(a:Addr) (w:Wl),(ReflectliteValue.parts (Ep T a 153)).run prog w=.ok (some (T,a,153)) w
 h3:∀w:Wl,(Rtype.directlyAssignable T T).run prog w=.ok true w
 h4:∀w:Wl,(isAgg T).run prog w=.ok true w
 h5:∀w:Wl,(sizeOf T).run prog w=.ok xs.size w
def FC{T:TypeId}{x y:Int}(h:FB T #[Iv x,Iv y]):Mg T #[Iv x,Iv y]:=by
 refine⟨h.h0,λb q ys W g j k m=>?_⟩;obtain⟨z,p,_⟩:=g.x;obtain⟨i,n,_⟩:=j.x;obtain⟨u,v,rfl⟩:∃u v,ys=#[u,v]:=by
  obtain⟨l⟩:=ys;match l,k with
  |[u,v],_=>exact⟨u,v,rfl⟩
 have a:=z 0;have d:=z 1;have e:=i 0;have f:=i 1;simp at a d e f;refine⟨_,FA h.h1 h.h2 h.h3 (xs:=#[Iv x,Iv y]) (W':=(W.setCell (Ad b 0) (Iv x)).setCell (Ad b 1) (Iv y)) ?_ ?_,(g.set 0 _).set 1 _,.c (zP rfl) (zP rfl)⟩
 ·simp[loadVar,h.h4,h.h5,e,f,loadCells,loadCellsFrom,Addr.add,go_sem]
 simp[storeVar,h.h5,Value.cells,storeCells,Addr.add];rw[run_store prog W (Ad b 0) _ _ (by rfl)];simp[a,d,p,go_sem]
def FD{T:TypeId}{x:Int}(h:FB T #[Iv x]):Mg T #[Iv x]:=by
 refine⟨h.h0,λb q ys W d e f i=>?_⟩;obtain⟨z,p,_⟩:=d.x;obtain⟨g,j,_⟩:=e.x;obtain⟨u,rfl⟩:∃u,ys=#[u]:=by
  obtain⟨l⟩:=ys;match l,f with
  |[u],_=>exact⟨u,rfl⟩
 have a:=z 0;have c:=g 0;simp at a c;refine⟨_,FA h.h1 h.h2 h.h3 (xs:=#[Iv x]) (W':=W.setCell (Ad b 0) (Iv x)) ?_ ?_,d.set 0 _,zP rfl⟩
 ·simp[loadVar,h.h4,h.h5,c,loadCells,loadCellsFrom,Addr.add,go_sem]
 simp[storeVar,h.h5,Value.cells,storeCells,Addr.add];rw[run_store prog W (Ad b 0) _ _ (by rfl)];simp[a,p,go_sem]
def UQ x y:Mg 113 #[Iv x,Iv y]:=FC (by constructor<;>intros<;>kernel_rfl)
def UR x y:Mg 117 #[Iv x,Iv y]:=FC (by constructor<;>intros<;>kernel_rfl)
def US x:Mg 108 #[Iv x]:=FD (by constructor<;>intros<;>kernel_rfl)
def UT x:Mg 121 #[Iv x]:=FD (by constructor<;>intros<;>kernel_rfl)
def Dk:Ow 113/\Ow 117/\Ow 108/\Ow 121/\Ow 102:=by
 refine⟨?_,?_,?_,?_,?_⟩<;>exact⟨λv=>run_typeAssert_lacksB underlying222 rR rR v 56,λv=>run_typeAssert_lacksB underlying225 rR rR v 56,λv=>run_typeAssert_lacksB underlying227 rR rR v 56,iR⟩
end
section
open Go.RowKit Go.Extern.Stop Go.Stop Go.Extern
section
variable {pT T C:TypeId} {w:Wl} {st:ByteArray} {v:Vl} {b:Nat} {ys xs:Av}
def Dm(w:Wl):Prop:=w.cell? (Ad 0 0)=some (.iface 217 (Gy 56))
def Dm.on{w w'}(h:Dm w)(k:w'.heap[0]?=w.heap[0]?):Dm w':=(zI (a:=(Ad 0 0)) k).trans h
def FE(h:Je pT T)(hg:Dm w){ev:Vl}{r:Bool}{ty:TypeId}{R:Wl->Prop}
  (hc:∀V,Kf w V->V.cell? (Ad w.heap.size 0)=some (Pt b 0)->Cs 81 #[.iface ty ev,.iface pT (Pt b 0),Ep pT (Ad w.heap.size 0) 150,.iface 217 (Gy T)] V (λe w'=>e=Rt (.bool r)/\R w')) :
  Cs 52 #[.iface ty ev,.iface pT (Pt b 0)] w (λe w'=>e=Rt (.bool r)/\R w'):=by
 generalize hU:w.alloc (Oc #[.pointer (Sm b 0)] pT)=U;have kU:Kf w U:=hU▸wU;have sU:U.heap.size=w.heap.size+1:=by rw[<-hU];simp
 generalize hV:U.alloc (Oc #[.pointer (Sm 5 pT),.pointer (Sm w.heap.size 0),Uv 150] 150)=V;have kV:Kf U V:=hV▸wU;have bV:wJ V w.heap.size #[.pointer (Sm b 0)]:=hV▸hU▸Cm.al _;have z:=(hV▸uV U #[.pointer (Sm 5 pT),.pointer (Sm w.heap.size 0),Uv 150] 150 U.heap.size rfl).x.1;have hq:=bV.x.1 0;simp at hq;have hl:0<w.heap.size:=ud hg;have hg2:V.cell? (Ad 0 0)=some (.iface 217 (Gy 56)):=Dm.on hg (((kU.c kV)).d 0 hl id);have HC:=ua (hc V (kU.c kV) hq);have Xd:=Xd;have h79 := @run_callFunc_extern Tryz.prog 79 _ (ReflectliteValue.methodAny (ReflectliteValue.valueError "reflectlite.Value.Type" 0) (fun t _ _ _ => ReflectliteType.toType t)) Tryz.func79 (by kernel_rfl) (by kernel_rfl) (by kernel_rfl) (by kernel_rfl);have h80 := @run_callFunc_extern Tryz.prog 80 _ (ReflectliteValue.method (ReflectliteValue.valueError "reflectlite.Value.IsNil" 0) ReflectliteValue.isNil) Tryz.func80 (by kernel_rfl) (by kernel_rfl) (by kernel_rfl) (by kernel_rfl);have h286:=@run_callFunc_extern Tryz.prog 286 _ (ReflectliteType.abiMethod λt=>do pure (Bv (<-Rtype.kind t))) Tryz.func286 rR rR rR rR;have h303:=@run_callFunc_extern Tryz.prog 303 _ (ReflectliteType.method ReflectliteType.elem) Tryz.func303 rR rR rR rR;have h304 := @run_callFunc_extern Tryz.prog 304 _ (ReflectliteType.relation "Implements" ReflectliteType.implements_) Tryz.func304 (by kernel_rfl) (by kernel_rfl) (by kernel_rfl) (by kernel_rfl);have f1:=h.k;have f2:=h.i;have f3:=h.kp;have f4:=h.kt;have f5:=h.el;have f6:=h.im;have f7:=h.f hq;have m1:=UJ;have m2:=UK;have m3:=UL;clear h hg hc kU kV bV sU;go_enter Tryz.func52,Tryz.ntmps52;go_wp2_with (go_at_call 81;refine HC.o.mono ?_;rintro e w' ⟨rfl,HR⟩);go_ret;exact⟨rfl,HR⟩
def Kw(h:Je pT T)(d:Gm C T false)(a:Dm w):Cs 52 #[.iface 104 (.agg #[.string st,.iface C v]),.iface pT (Pt b 0)] w (λe w'=>e=Rt Bf/\Kf w w') :=
 FE h a λV k _=>(UO h d _).mono λe w' q=>⟨q.1,k.c q.2⟩
def Ta(h:Je pT T)(j:Gm T T true)(i:Mg T xs)(f:wJ w b ys)(n:ys.size=xs.size)(g:Dm w):Cs 52 #[.iface 104 (.agg #[.string st,.iface T (.agg xs)]),.iface pT (Pt b 0)] w (λe w'=>e=Rt Bt/\wJ w' b xs/\wA (λx=>x=b) w w') :=
 FE h g λV k m=>(UP h j i _ (f.a (k.d _ f.x.2.2 id)) n m).mono λe w' q=>⟨q.1,q.2.1,(k.l (λ_ q=>q.elim)).c q.2.2⟩
def Jf(c a:Int):Vl:=.agg #[Iv c,Iv a,Iv 0,Iv 0,nS,Iv 0,Iv 0,nS,nS]
inductive Flt:TypeId->Array Value->Int->Int->Prop
 |text (c a:Int):Flt 113 #[Iv c,Iv a] c a
 |check (c a:Int):Flt 117 #[Iv c,Iv a] c a
 |input (n:Int):Flt 108 #[Iv n] 7 4000
 |run (c:Int):Flt 121 #[Iv c] c 0
 |bounds (f s:Int):Flt 102 #[Iv f,Iv s] 4 0
def UU:Gm 113 113 true:=⟨Dk.1,iR⟩
def UV:Gm 117 113 false:=⟨Dk.2.1,iR⟩
def UW:Gm 117 117 true:=⟨Dk.2.1,iR⟩
def UX:Gm 108 113 false:=⟨Dk.2.2.1,iR⟩
def UY:Gm 108 117 false:=⟨Dk.2.2.1,iR⟩
def UZ:Gm 108 108 true:=⟨Dk.2.2.1,iR⟩
def VA:Gm 121 113 false:=⟨Dk.2.2.2.1,iR⟩
def VB:Gm 121 117 false:=⟨Dk.2.2.2.1,iR⟩
def VC:Gm 121 108 false:=⟨Dk.2.2.2.1,iR⟩
def VD:Gm 121 121 true:=⟨Dk.2.2.2.1,iR⟩
def VE:Gm 102 113 false:=⟨Dk.2.2.2.2,iR⟩
def VF:Gm 102 117 false:=⟨Dk.2.2.2.2,iR⟩
def VG:Gm 102 108 false:=⟨Dk.2.2.2.2,iR⟩
def VH:Gm 102 121 false:=⟨Dk.2.2.2.2,iR⟩
def Eh:Array Value:=#[Iv 0,Iv 0,Iv 0,Iv 0,nS,Iv 0,Iv 0,nS,nS]
structure RF(w X:Wl):Prop where
 k:Kf w X
 g:Dm X
 r:wJ X w.heap.size Eh
def RF.al{X:Wl}(h:RF w X)(o:Obj):RF w (X.alloc o):=⟨h.k.c wU,h.g.on (Hj (ud h.g)),h.r.al _⟩
def RF.p{X W:Wl}{o:Obj}(h:RF w X)(k:Kf (X.alloc o) W):RF w W:=⟨(h.al o).k.c k,(h.al o).g.on (k.d _ (ud (h.al o).g) id),(h.al o).r.a (k.d _ (h.al o).r.x.2.2 id)⟩
def RF.a{X W:Wl}{o:Obj}(h:RF w X)(k:wA (λx=>x=X.heap.size) (X.alloc o) W):RF w W:=by
 have c:=ud h.g;have l2:=h.r.x.2.2;have j:=h.k.h;refine⟨⟨k.os.trans (h.al o).k.os,k.g.trans (h.al o).k.g,k.f.trans (h.al o).k.f,wN (h.al o).k.h k.h,λx b i=>(k.d x (wX b (h.al o).k.h) (λe=>by have e:x=X.heap.size:=e;omega)).trans ((h.al o).k.d x b i)⟩,(h.al o).g.on (k.d _ (ud (h.al o).g) (λe=>?_)),(h.al o).r.a (k.d _ (h.al o).r.x.2.2 (λe=>?_))⟩
 ·have e:=e;have c:=c;omega
 have e:=e;omega
def Hk{W:Wl}{b o:Nat}(k:Kf w W){v:Vl}(e:w.heap.size<=b):Kf w (W.setCell (Ad b o) v) :=
 ⟨k.os,k.g,k.f,by simp only[World.size_setCell];exact k.h,λx c a=>(zJ _ (by show x≠b;omega)).trans (k.d x c a)⟩
def VI{xs:Av}{c a:Int}(t:Flt C xs c a)(o:Dm w):Cs 19 #[.iface 104 (.agg #[.string st,.iface C (.agg xs)])] w (λe w'=>e=Rt (Jf c a)/\Kf w w'):=by
 have A:=ud o;generalize u:w.alloc (Oc #[Iv 0,Iv 0,Iv 0,Iv 0,nS,Iv 0,Iv 0,nS,nS] 26)=R;have R0:Hid (RF w R):=u▸⟨wU,Dm.on o (Hj A),Cm⟩;go_enter func19,ntmps19;rcases t with⟨c,a⟩|⟨c,a⟩|n|c|⟨f,s⟩
 ·go_wp2_with fail;refine(Ta (ys:=#[Iv 0,Iv 0]) Qq UU (UQ c a) Cm rfl (R0.al _).g).mono ?_;rintro e W1 ⟨rfl,i,k⟩;have b:=ua (R0.a k);obtain⟨y,q,l⟩:=i.x;obtain⟨z,j,lz⟩:=b.r.x;unfold Eh at z;have h:=ua b.k;go_wp2;refine wL (v:=Jf _ _) (by simp[Jf,results,f19,go_sem, *]) rfl ⟨rfl,?_⟩;repeat with_reducible first|exact h.o|refine Hk ?_ wF
 ·go_wp2_with fail;refine(Kw Qq UV (R0.al _).g).mono ?_;rintro e W1 ⟨rfl,k⟩;have b:=ua (R0.p k);go_wp2_with fail;refine(Ta (ys:=#[Iv 0,Iv 0]) Sz UW (UR c a) Cm rfl (b.al _).g).mono ?_;rintro e W2 ⟨rfl,i,k⟩;have d:=ua (b.a k);obtain⟨y,q,l⟩:=i.x;obtain⟨z,j,lz⟩:=d.r.x;unfold Eh at z;have h:=ua d.k;go_wp2;refine wL (v:=Jf _ _) (by simp[Jf,results,f19,go_sem, *]) rfl ⟨rfl,?_⟩;repeat with_reducible first|exact h.o|refine Hk ?_ wF
 ·go_wp2_with fail;refine(Kw Qq UX (R0.al _).g).mono ?_;rintro e W1 ⟨rfl,k⟩;have b:=ua (R0.p k);go_wp2_with fail;refine(Kw Sz UY (b.al _).g).mono ?_;rintro e W2 ⟨rfl,k⟩;have d:=ua (b.p k);go_wp2_with fail;refine(Ta (ys:=#[Iv 0]) Xc UZ (US n) Cm rfl (d.al _).g).mono ?_;rintro e m ⟨rfl,i,k⟩;have R3:=ua (d.a k);obtain⟨y,q,l⟩:=i.x;obtain⟨z,j,lz⟩:=R3.r.x;unfold Eh at z;have h:=ua R3.k;go_wp2;refine wL (v:=Jf _ _) (by simp[Jf,results,f19,go_sem, *]) rfl ⟨rfl,?_⟩;repeat with_reducible first|exact h.o|refine Hk ?_ wF
 ·go_wp2_with fail;refine(Kw Qq VA (R0.al _).g).mono ?_;rintro e W1 ⟨rfl,k⟩;have b:=ua (R0.p k);go_wp2_with fail;refine(Kw Sz VB (b.al _).g).mono ?_;rintro e W2 ⟨rfl,k⟩;have d:=ua (b.p k);go_wp2_with fail;refine(Kw Xc VC (d.al _).g).mono ?_;rintro e m ⟨rfl,k⟩;have R3:=ua (d.p k);go_wp2_with fail;refine(Ta (ys:=#[Iv 0]) ER VD (UT c) Cm rfl (R3.al _).g).mono ?_;rintro e W4 ⟨rfl,i,k⟩;have R4:=ua (R3.a k);obtain⟨y,q,l⟩:=i.x;obtain⟨z,j,lz⟩:=R4.r.x;unfold Eh at z;have h:=ua R4.k;go_wp2;refine wL (v:=Jf _ _) (by simp[Jf,results,f19,go_sem, *]) rfl ⟨rfl,?_⟩;repeat with_reducible first|exact h.o|refine Hk ?_ wF
 go_wp2_with fail;refine(Kw Qq VE (R0.al _).g).mono ?_;rintro e W1 ⟨rfl,k⟩;have b:=ua (R0.p k);go_wp2_with fail;refine(Kw Sz VF (b.al _).g).mono ?_;rintro e W2 ⟨rfl,k⟩;have d:=ua (b.p k);go_wp2_with fail;refine(Kw Xc VG (d.al _).g).mono ?_;rintro e m ⟨rfl,k⟩;have R3:=ua (d.p k);go_wp2_with fail;refine(Kw ER VH (R3.al _).g).mono ?_;rintro e W4 ⟨rfl,k⟩;have R4:=ua (R3.p k);obtain⟨z,j,lz⟩:=R4.r.x;unfold Eh at z;have h:=ua R4.k;go_wp2;refine wL (v:=Jf _ _) (by simp[Jf,results,f19,go_sem, *]) rfl ⟨rfl,?_⟩;repeat with_reducible first|exact h.o|refine Hk ?_ wF
end
end
open M (OpD uh Gr uw)
attribute [local go_sem] uj8 unA unB unC uj9 unE unF unG uka unH unI unJ
structure AP(mO:Int)(s:wD):Prop where
 m1:mO<=1000
 c:(s.st.length:Int)<=mO
 b:∀f,f∈s.st->f.e≠2->f.a<=s.a.length
 a:∀f,f∈s.st->f.e=0\/f.e=1\/f.e=2
 g:s.a.length<=1048576
 e:s.e=false
def AP.d{mO s}(h:AP mO s):s.st.length<=1000:=oG h.m1 h.c
def kL(x:uw)(sa:Oa)(sc:Nat):Vl:=.agg #[Iv x.e,Iv x.f,Iv x.to,Sl sa x.sl sc]
def wD.nx(s:wD):wD:={ s with f:=s.f+1 }
def wE.a{t K L b g il ic mO w W w' e}(d:Kept (λx=>K x\/L x\/x=b) w W)(h:wE t K L b g il ic mO W e w'):wE t K L b g il ic mO w e w':=by
 obtain⟨k,z,st,q,r,la,lc,i,j,l,m,n,o,p⟩:=h;have s:=d.h;have f:∀x,wM W w' x->wM w w' x:=λx c=>⟨by have:=c.1;omega,c.2⟩
 exact⟨k,z,st,q,r,la,lc,i,j,l,m,λx c=>(n x c).imp id (f x),λx c=>(o x c).imp id (f x),yC d p⟩
def wE.below{t K L b c il ic mO w W w' e}(d:Bw w W)(h:wE t K L b c il ic mO W e w'):wE t K L b c il ic mO w e w':=h.a (Kept.of d)
def wE.over{t c:wD}{K L:Np}{b:Nat}{a:Oa}{il ic:Nat}{mO:Int}{w w':Wl}{e:Ending}(h:wE t K L b a il ic mO w e w')(i:t.e=true)(j:∃z st,c={ t with f:=z,st:=st }):wE c K L b a il ic mO w e w':=by
 obtain⟨s,r,rfl⟩:=j;obtain⟨k,z,st,n,o,la,lc,d,g,p,l,m⟩:=h;refine⟨k,z,st,n,o,la,lc,d,g,λq=>?_,l,m⟩;have q':=q;rw[i]at q';cases q'
def wE.fail{s:wD}{z:Int}{K L:Np}{b:Nat}{d:Oa}{il ic:Nat}{mO:Int}{w w':Wl}{e:Ending}(h:wE (wD.fail { s with f:=z }) K L b d il ic mO w e w'):wE s.fail K L b d il ic mO w e w':=by
 cases c:vg s.st.reverse with
 |none =>
  have a:wD.fail { s with f:=z }=wD.t { s with f:=z } 1:=by unfold wD.fail;simp only[c]
  have g:s.fail=s.t 1:=by unfold wD.fail;rw[c]
  rw[a]at h;rw[g];exact h.over rfl ⟨s.f,s.st,rfl⟩
 |some p =>
  obtain⟨f,r⟩:=p;have a:wD.fail { s with f:=z }=s.fail:=by unfold wD.fail;simp only[c]
  rw[<-a];exact h
def xy{K L:Np}{b:Nat}{s:wD}{l:Oa}{il ic:Nat}{mO:Int}{h:Oa}{j:Nat}{la:Oa}{lc:Nat}{w W:Wl}{t:wD}(g:wO K L W b s l il ic mO h j la lc)(p:Kept (λx=>K x\/L x\/x=b) w W)(o:t.e=true)(d:∃z st,s={ t with f:=z,st:=st,e:=s.e,i:=s.i }):wE t K L b l il ic mO w (Rt (Iv t.i)) W:=by
 obtain⟨z,st,d⟩:=d;have m:s.st=st:=by rw[d]
 have n:s.a=t.a:=by rw[d]
 refine⟨by unfold jl;rw[o];rfl,z,st,h,j,la,lc,K,L,(λq=>by rw[o]at q;cases q),⟨?_,?_,?_,g.lt,g.kl,g.kb,g.lb⟩,λx k=>.inl k,λx k=>.inl k,p⟩
 ·show wY W b _ l il ic mO h st.length j la t.a.length lc;rw[<-m,<-n];exact g.c.re (by rw[d]) (by rw[d]) (by rw[d]) (by rw[d]) (by rw[d]) (by rw[d]) (by rw[d])
 ·show wC K W (Sl h st.length j) 1 st.length (uZ false st);rw[<-m];exact g.st
 show wC L W (Sl la t.a.length lc) 3 t.a.length (uS t.a);rw[<-n];exact g.a
def KK{K L b c il ic mO d g la lc w W t}(i:wO K L W b t c il ic mO d g la lc)(j:Kept (λx=>K x\/L x\/x=b) w W)(h:t.e=false):wE t K L b c il ic mO w (Rt (Iv (-1))) W :=
 ⟨by unfold jl;rw[h];rfl,t.f,t.st,d,g,la,lc,K,L,λ_=>⟨rfl,rfl⟩,i,λx a=>.inl a,λx a=>.inl a,j⟩
def vm{P R w W}(h:Kept P w W)(k:∀x,P x->R x):Kept R w W:=⟨h.os,h.g,h.f,h.h,λx b a=>h.d x b (λq=>a (k x q))⟩
def K9(s:wD):(s.st.length=0/\∀k,s.s k=false)\/∃j f,s.st.length=j+1/\s.st[j]?=some f/\(∀k,s.s k=(f.e==k))/\qB s.st=f.to:=by
 rcases Nat.eq_zero_or_pos s.st.length with a|a
 ·refine .inl ⟨a,λk=>?_⟩;unfold wD.s;rw[Hh a];rfl
 obtain⟨j,b⟩:∃j,s.st.length=j+1:=⟨s.st.length-1,oM⟩;obtain⟨f,d,c⟩:=QO b;refine .inr ⟨j,f,b,d,λk=>?_,?_⟩
 ·unfold wD.s;rw[c]
 unfold qB;rw[c]
def wO.d{K L:Np}{w:Wl}{b:Nat}{s:wD}{n:Oa}{il ic:Nat}{mO:Int}{g:Oa}{i:Nat}{la:Oa}{lc j:Nat}(h:wO K L w b s.nx n il ic mO g i la lc)(o:s.st.length=j+1):wO K L (w.setCell (Ad b 4) (Sl g j i)) b s.r.nx n il ic mO g i la lc:=by
 have m:s.r.nx.st.length=j:=by show s.st.dropLast.length=j;rw[Ql];omega
 have l:∀x,x≠b->(w.setCell (Ad b 4) (Sl g j i)).heap[x]?=w.heap[x]?:=λx f=>zJ _ f
 refine⟨?_,?_,?_,λx f=>by rw[uj];exact h.lt x f,h.kl,h.kb,h.lb⟩
 ·rw[m];exact(h.c.c g j i).re rfl rfl rfl rfl rfl rfl rfl
 ·rw[m];have e:s.r.nx.st=s.st.take j:=by show s.st.dropLast=_;rw[List.dropLast_eq_take,o];rfl
  rw[e,qr];have k:=Vi h.st (j:=j) (by show j<=s.st.length;omega);rw[Mb]at k;exact k.on (λx f=>l x (λe=>h.kb (e▸f)))
 exact h.a.on (λx f=>l x (λe=>h.lb (e▸f)))
def L0{mO s}(h:AP mO s):(s.r.st.length:Int)<=mO:=by
 have:=h.c;show(s.st.dropLast.length:Int)<=mO;rw[Ql];omega
def KL{mO s}(h:AP mO s):s.r.st.length<=1000:=by
 have:=h.d;show s.st.dropLast.length<=1000;rw[Ql];omega
def L1{mO s}(h:AP mO s):∀f,f∈s.r.st->f.e≠2->f.a<=s.r.a.length:=λf c=>h.b f (List.dropLast_subset _ c)
def ult{mO s}(h:AP mO s):∀f,f∈s.r.st->f.e=0\/f.e=1\/f.e=2:=λf b=>h.a f (List.dropLast_subset _ b)
def L2{s:wD}{j:Nat}{f:Cp}{a:Bool}(d:s.st.length=j+1)(c:s.st[j]?=some f)(g:(f.e==1)=false)(h:s.st.any (λf=>f.e==1)=a):s.r.st.any (λf=>f.e==1)=a:=by
 have e:s.st=s.st.take j++[f]:=by
  rw[<-qA c,Jo oM]
 have b:s.r.st=s.st.take j:=by show s.st.dropLast=_;rw[List.dropLast_eq_take,d];rfl
 rw[b,<-h]
 conv=>rhs;rw[e]
 rw[List.any_append];simp[g]
def L3 K L b s x sa sc i il ic I mO j k la lc w(f:wO K L w b s.nx i il ic mO j k la lc)(r:AP mO s)(u:x.e=12) :
  Cs 185 #[.pointer (Sm b 0),kL x sa sc] w (wE (s.q x il I mO) K L b i il ic mO w):=by
 have g:=ua f;have o:w.cell? (Ad b 4)=some (Sl j s.st.length k):=f.c.c4;have lb:=f.bl;have p:=r.d;have l:Hid (s.q x il I mO=if s.st.length=0 then s.t 0 else s.t 4):=by
  show _=_;unfold wD.q;simp only[u];simp
 obtain⟨n,h⟩:∃n,s.st.length=n:=⟨_,rfl⟩;have m:=ua h;rw[h]at o p;unfold kL;rw[l.o,m.o];by_cases a:n=0
 ·rw[Zp a];subst a;go_enter func185,ntmps185;go_wp2;go_ret;exact xy (t:=s.t 0) (g.q (wG w)) (Kept.of (wG w)) rfl ⟨_,_,rfl⟩
 rw[Zn a];have h0':(0:Int)<(n:Int):=oM;go_enter func185,ntmps185;go_wp2;go_ret;exact xy (t:=s.t 4) (g.q (wG w)) (Kept.of (wG w)) rfl ⟨_,_,rfl⟩
def L4 K L b s x sa sc g il ic I mO k m la lc w(A:wO K L w b s.nx g il ic mO k m la lc)(D:AP mO s)(E:x.e=1) :
  Cs 176 #[.pointer (Sm b 0),kL x sa sc] w (wE (s.q x il I mO) K L b g il ic mO w):=by
 have o:=ua A;have h:=ua D;have u:Hid (s.q x il I mO=(s.nx).n ⟨0,x.to,s.c,s.a.length⟩ mO):=by
  show _=_;unfold wD.q;simp only[E];simp[wD.w,wD.nx]
 obtain⟨F,C⟩:=nm s.nx.l;have p:=ua C;rw[u.o];unfold kL;go_enter func176,ntmps176;go_wp2_with fail;refine(ME K L b s.nx g il ic mO k m la lc x.to _ (o.q (wG w)) h.d).mono ?_;rintro e W ⟨rfl,f⟩;rw[p.o];have i:=ua (o.q (uf (wG w) f));have v:=ua (uf (wG w) f);go_wp2_with fail;refine(AL b s.c s.a.length lc la i.c.c3 i.c.c5).mono ?_;rintro e W2 ⟨rfl,f⟩;have t:=ua (i.q f);have y:=ua (uf v f);go_wp2_with fail;refine(Um K L b s.nx ⟨0,x.to,s.c,s.a.length⟩ _ _ g il ic mO k m la lc _ t h.d h.c h.e (by rw[p.o];unfold Hn;simp)).mono ?_;rintro e z j;obtain⟨B,j⟩:=j;subst B;have r:Hid (wE (wD.n s.nx ⟨0,x.to,s.c,s.a.length⟩ mO) K L b g il ic mO _ _ z):=⟨rfl,j⟩;go_wp2;go_ret;exact r.below y
def KM(K L:Np)(b:Nat)(s:wD)(x:uw)(sa:Oa)(sc:Nat)(g:Oa)(il ic:Nat)(I:Nat->Int)(mO:Int)(j:Oa)(m:Nat)(la:Oa)(lc:Nat)(w:Wl)(p:wO K L w b s.nx g il ic mO j m la lc)(E:AP mO s) :
  Cs 181 #[.pointer (Sm b 0),kL x sa sc] w (wE (s.v x mO) K L b g il ic mO w):=by
 have A:=ua p;have o:=ua E;have lb:=p.bl;have C:w.cell? (Ad b 2)=some (Iv (s.f+1)):=p.c.c2;obtain⟨Q,D⟩:=nm s.nx.l;have B:=ua D;obtain⟨u,z⟩:∃u,s.f+1=u:=⟨_,rfl⟩;have H:=ua z;rw[z]at C;unfold kL;clear p E D z;go_enter func181,ntmps181;go_wp2_with fail;refine(ME K L b s.nx g il ic mO j m la lc u _ (A.q (wG w)) o.d).mono ?_;rintro e W ⟨rfl,t⟩;rw[B.o];have i:Hid (wO K L W b s.nx g il ic mO j m la lc):=A.q (uf (wG w) t);have N:Hid (Bw w W):=uf (wG w) t;have R:=ue (a:=(Ad w.heap.size 2)) (v:=Iv x.to) (cN w.heap.size rfl rfl) t;have X:=ud R;have S:=i.c.c2;have T:=i.c.fz 2;have V:=i.bl;have U:b≠w.heap.size:=oM;clear t C;go_wp2_with fail;have F:Hid (wO K L (W.setCell (Ad b 2) (Iv x.to)) b { s with f:=x.to } g il ic mO j m la lc):=i.o.k ((Bk.e _ W).set b 2 _ rfl) rfl rfl (i.o.c.d x.to);have J:Hid (Kept (λy=>K y\/L y\/y=b) w (W.setCell (Ad b 2) (Iv x.to))):=vm (vG (Kept.of N.o) 2) (λy h=>.inr (.inr h));refine(Um K L b { s with f:=x.to } ⟨2,s.f+1,0,0⟩ _ _ g il ic mO j m la lc _ (F.q (wG _)) o.d o.c o.e (by rw[H.o,show({ s with f:=x.to }:wD).l=Q from B.o];unfold Hn;simp)).mono ?_;rintro e O r;obtain⟨P,r⟩:=r;subst P;have G:Hid (wE (wD.n { s with f:=x.to } ⟨2,s.f+1,0,0⟩ mO) K L b g il ic mO _ _ O):=⟨rfl,r⟩;clear r;go_wp2;go_ret;exact G.a (vS J)
def Zl{K L b s B il ic mO x o la lc w W}(D:wO K L w b s.nx B il ic mO x o la lc)(z:AP mO s)(t:Bw w W) :
  Cs 210 #[.pointer (Sm b 0)] W (λe V=>∃(G:Oa) (f:Cp) (p:Bool),wO K L V b s.r.nx B il ic mO G o la lc/\Kept (λy=>y=b) w V/\(∀y,y≠b->V.heap[y]?=W.heap[y]?)/\(∀k,k<=2->s.s k=(f.e==k))/\qB s.st=f.to/\(f.e=9/\e=Rt .nilIface\/(f.e=0/\s.r.st.any (λf=>f.e==1)=p)/\e=Rt (.iface 331 (.agg #[Iv f.to,.bool p,Iv (f.c:Int),Iv (f.a:Int)]))\/f.e=1/\e=Rt (.iface 336 (.agg #[Iv f.to,.bool p,Iv (f.c:Int),Iv (f.a:Int)]))\/f.e=2/\e=Rt (.iface 339 (.agg #[Iv f.to,.bool p])))):=by
 have i:=D.q t;have m:=i.c.c4;rcases K9 s with⟨A,v⟩|⟨j,f,n,u,v,E⟩
 ·rw[show s.nx.st.length=0 from A]at m;refine(MB b x o W m).mono ?_;rintro _ _ ⟨rfl,rfl⟩;have e:s.r=s:=by have:=Hh A;cases s;simp_all[wD.r]
  refine⟨x,⟨9,qB s.st,0,0⟩,false,by rw[e];exact i,Kept.of t,λ_ _=>rfl,λk h=>?_,rfl,.inl ⟨rfl,rfl⟩⟩;rw[v];simp;omega
 rw[show s.nx.st.length=j+1 from n]at m;obtain⟨g,rfl,H,I,C⟩:=MD (l:=s.st) i.st n u;refine(AH b g j o W m (i.c.fz 4) C (oH z.d) oM).mono ?_;rintro _ _ ⟨rfl,rfl⟩;refine⟨_,f,s.st.any (λf=>f.e==1),i.d n,vG (Kept.of t) 4,λy F=>zJ _ F,λk _=>v k,E,?_⟩;unfold Hn;rcases z.a f (Be u) with h|h|h
 ·exact .inr (.inl ⟨⟨h,L2 n u (by rw[h];rfl) rfl⟩,by rw[Zp h]⟩)
 ·exact .inr (.inr (.inl ⟨h,by rw[Zn (by rw[h];decide),Zp h]⟩))
 exact .inr (.inr (.inr ⟨h,by rw[Zn (by rw[h];decide),Zn (by rw[h];decide)]⟩))
def KN{C:Nat}(K L:Np)(b:Nat)(s:wD)(x:uw)(sa:Oa)(sc:Nat)(H:Oa)(il ic:Nat)(I:Nat->Int)(mO:Int)(N:Oa)(O:Nat)(la:Oa)(lc:Nat)(w:Wl)(v:wO K L w b s.nx H il ic mO N O la lc)(E:AP mO s)(n:x.e=2/\C=177\/x.e=7/\C=182) :
  Cs C #[.pointer (Sm b 0),kL x sa sc] w (wE (s.q x il I mO) K L b H il ic mO w):=by
 have J:=ua v;have G:=ua E;have lb:=v.bl;obtain⟨T,i⟩:=nm (s.q x il I mO);rw[i];unfold kL;rcases n with⟨m,rfl⟩|⟨m,rfl⟩;all_goals
  first|go_enter func177,ntmps177|go_enter func182,ntmps182
  go_wp2_with fail;refine(Zl J G (wG w)).mono ?_;rintro _ V ⟨U,f,X,j,n,D,o,A,h⟩;have B:=ua j;have F:=ua n;obtain⟨z,p,l⟩:=((um w _ 202).a (D w.heap.size oM)).x;have W:=j.bl;have P:=j.c.c2;have Q:=j.c.fz 2;have S:b≠w.heap.size:=oM;rcases h with⟨g,rfl⟩|⟨⟨g,R⟩,rfl⟩|⟨g,rfl⟩|⟨g,rfl⟩;all_goals first
   |have u:Hid (s.t 4=T):=by show _=_;rw[<-i];simp[wD.q,m,o,g];done
    clear v E j n D o A i g m;go_wp2;go_ret;rw[<-u.o];exact xy (t:=s.t 4) (B.q (wG _)) (vm (vS F) λy h=>.inr (.inr h)) rfl ⟨_,_,rfl⟩
   |skip
  first
   |have u:Hid ({ s.r with f:=x.to }=T):=by show _=_;rw[<-i];simp[wD.q,m,o,g,A];done
   |have u:Hid ({ s.r with f:=f.to }=T):=by show _=_;rw[<-i];simp[wD.q,m,o,g,A];done
  clear v E j n D o A i g m;go_wp2;go_ret;rw[<-u.o];exact KK (wO.q (B.k ((Bk.e _ V).set b 2 _ rfl) rfl rfl (B.c.d _)) (wG _)) (vm (vS (vG F 2)) λy h=>.inr (.inr h)) G.e
def L5 K L b s x sa sc u il ic I mO P G la lc w(k:wO K L w b s.nx u il ic mO P G la lc)(C:AP mO s)(o:x.e=5) :
  Cs 180 #[.pointer (Sm b 0),kL x sa sc] w (wE (s.q x il I mO) K L b u il ic mO w):=by
 have H:=ua k;have i:=ua C;have lb:=k.bl;obtain⟨T,j⟩:=nm (s.q x il I mO);rw[j];unfold kL;go_enter func180,ntmps180;go_wp2_with fail;refine(Zl H i (wG w)).mono ?_;rintro _ V ⟨Q,f,Y,g,A,B,n,F,h⟩;have E:=ua g;have D:=ua A;obtain⟨z,p,l⟩:=((um w _ 202).a (B w.heap.size oM)).x;have X:=g.bl;have R:=g.c.c2;have S:=g.c.fz 2;have W:b≠w.heap.size:=oM;rcases h with⟨d,rfl⟩|⟨⟨d,U⟩,rfl⟩|⟨d,rfl⟩|⟨d,rfl⟩;all_goals first
  |have v:Hid (s.t 4=T):=by show _=_;rw[<-j];simp[wD.q,o,n,d];done
   clear k C g A B n F j d o;go_wp2;go_ret;rw[<-v.o];exact xy (t:=s.t 4) (E.q (wG _)) (vm (vS D) λy h=>.inr (.inr h)) rfl ⟨_,_,rfl⟩
  |skip
 have v:Hid (s.r.fail=T):=by show _=_;rw[<-j];simp[wD.q,o,n,d]
 clear k C g A B n F j d o;go_wp2_with fail;refine(jo K L b s.r.nx u il ic mO Q G la lc (E.q (wG _)) (KL i) i.e (L1 i) (ult i)).mono ?_;rintro e N m;obtain⟨O,m⟩:=m;subst O;have J:Hid (wE (wD.fail s.r.nx) K L b u il ic mO _ _ N):=⟨rfl,m⟩;clear m;go_wp2;go_ret;rw[<-v.o];exact(J.a (vm (vS D) (λy h=>.inr (.inr h)))).fail
def L6 K L b s x sa sc j il ic I mO ka B la lc w(F:wO K L w b s.nx j il ic mO ka B la lc)(U:AP mO s)(J:x.e=3) :
  Cs 178 #[.pointer (Sm b 0),kL x sa sc] w (wE (s.q x il I mO) K L b j il ic mO w):=by
 have HA:=ua F;have E:=ua U;have lb:=F.bl;obtain⟨T,A⟩:=nm (s.q x il I mO);rw[A];unfold kL;go_enter func178,ntmps178;go_wp2_with fail;refine(Zl HA E (wG w)).mono ?_;rintro _ V ⟨O,f,nn,u,R,S,H,W,h⟩;have m:=ua u;have D:=ua R;obtain⟨z,p,l⟩:=((um w _ 202).a (S w.heap.size oM)).x;have lv:=u.bl;have d2:=u.c.c2;have g2:=u.c.fz 2;have ae:b≠w.heap.size:=oM;rcases h with⟨i,rfl⟩|⟨⟨i,hn⟩,rfl⟩|⟨i,rfl⟩|⟨i,rfl⟩;all_goals first
  |have P:Hid (s.t 4=T):=by show _=_;rw[<-A];simp[wD.q,J,H,i];done
   clear F U u R S H W A i J;go_wp2;go_ret;rw[<-P.o];exact xy (t:=s.t 4) (m.q (wG _)) (vm (vS D) λy h=>.inr (.inr h)) rfl ⟨_,_,rfl⟩
  |skip
 have P:Hid (({ s.r with f:=x.to }:wD).n ⟨0,f.to,s.c,s.a.length⟩ mO=T):=by show _=_;rw[<-A];simp[wD.q,J,H,i,W]
 have ad:=ua hn;clear F U u R S H W A i J hn;go_wp2_with fail;refine(AL b s.c s.a.length lc la (m.q (wG _)).c.c3 (m.q (wG _)).c.c5).mono ?_;rintro e W2 ⟨rfl,g⟩;have C:Hid (wO K L W2 b s.r.nx j il ic mO O B la lc):=m.q (uf (wG _) g);have X:Hid (Bw V W2):=uf (wG _) g;have y0:=ue (a:=(Ad V.heap.size 0)) (v:=Iv f.to) (cN V.heap.size rfl rfl) g;have y1:=ue (a:=(Ad V.heap.size 1)) (v:=.bool nn) (cN V.heap.size rfl rfl) g;have y2:=ue (a:=(Ad V.heap.size 2)) (v:=Iv f.c) (cN V.heap.size rfl rfl) g;have y3:=ue (a:=(Ad V.heap.size 3)) (v:=Iv f.a) (cN V.heap.size rfl rfl) g;have Q:∀o,W2.frozen? (Ad V.heap.size o)=false:=λo=>by
  rw[g.frozen (p:=(Ad V.heap.size o)) sM];exact qk V 331 _ _ oM sM
 have q2:=Q 2;have q3:=Q 3;have x2:=ue (z 2) X;have aj:w.heap.size<W2.heap.size:=ud x2;have ai:V.heap.size<W2.heap.size:=ud y0;have e2:=C.c.c2;have r2:=C.c.fz 2;have ah:=C.bl;have af:b≠V.heap.size:=oM;have ag:w.heap.size≠V.heap.size:=oM;clear g Q d2 g2 z p;go_wp2_with fail;have aa:Hid (wO K L (((W2.setCell (Ad V.heap.size 2) (Iv s.c)).setCell (Ad V.heap.size 3) (Iv s.a.length)).setCell (Ad b 2) (Iv x.to)) b { s.r with f:=x.to } j il ic mO O B la lc):=by
  have Z:∀y,K y\/L y\/y=b->y≠V.heap.size:=λy N e=>by
   subst e;rcases N with q|q|q
   ·have:=m.lt _ (.inl q);omega
   ·have:=m.lt _ (.inr q);omega
   omega
  have Y:wO K L ((W2.setCell (Ad V.heap.size 2) (Iv s.c)).setCell (Ad V.heap.size 3) (Iv s.a.length)) b s.r.nx j il ic mO O B la lc:=C.on (λy N=>(zJ _ (Z y N)).trans (zJ _ (Z y N))) (by rw[uj,uj];exact wF);exact Y.k ((Bk.e _ _).set b 2 _ rfl) rfl rfl (Y.c.d x.to)
 have ac:Hid (Kept (λy=>K y\/L y\/y=b) w (((W2.setCell (Ad V.heap.size 2) (Iv s.c)).setCell (Ad V.heap.size 3) (Iv s.a.length)).setCell (Ad b 2) (Iv x.to))):=by
  have h5:Kept (λy=>y=b) w W2:=yC D (Kept.of X);exact vm (vG ((h5.set _ _ _ (oH D.h)).set _ _ _ (oH D.h)) 2) (λy h=>.inr (.inr h))
 refine(Um K L b { s.r with f:=x.to } ⟨0,f.to,s.c,s.a.length⟩ _ _ j il ic mO O B la lc _ aa (KL E) (L0 E) E.e (by rw[show({ s.r with f:=x.to }:wD).l=nn from ad];unfold Hn;simp)).mono ?_;rintro e W9 G;obtain⟨he,G⟩:=G;subst he;have ab:Hid (wE (wD.n { s.r with f:=x.to } ⟨0,f.to,s.c,s.a.length⟩ mO) K L b j il ic mO _ _ W9):=⟨rfl,G⟩;clear G;go_wp2;go_ret;rw[<-P.o];exact ab.a ac
def L7 K L b s x sa sc j il ic I mO p r la lc w(R:wO K L w b s.nx j il ic mO p r la lc)(U:AP mO s)(ad:s.d<=1048576)(V:x.e=8) :
  Cs 183 #[.pointer (Sm b 0),kL x sa sc] w (wE (s.q x il I mO) K L b j il ic mO w):=by
 have D:Hid (wO K L w b s.nx j il ic mO p r la lc):=R;have i:Hid (AP mO s):=U;unfold kL;have O:Hid (s.q x il I mO=if s.l then s.fail else if x.to<0 then ({ s with d:=s.d+1,label:=x.f }).t 2 else ({ s with d:=s.d+1 }).v x mO):=by
  show _=_;unfold wD.q;simp only[V];simp
 obtain⟨B,J⟩:∃B,s.l=B:=⟨_,rfl⟩;have X:Hid (s.nx.l=B):=J;have C:=O.o;rw[J]at C;obtain⟨T,S⟩:∃T,s.q x il I mO=T:=⟨_,rfl⟩;rw[S]at C ⊢;have z:Hid (T=if B=true then s.fail else if x.to<0 then ({ s with d:=s.d+1,label:=x.f }).t 2 else ({ s with d:=s.d+1 }).v x mO):=C;clear R U V J C O S;go_enter func183,ntmps183;go_wp2_with fail;refine(jJ K L b s.nx j il ic mO p r la lc (D.o.q (wG w)) i.o.d).mono ?_;rintro e W ⟨rfl,u⟩;rw[X.o];have m:Hid (wO K L W b s.nx j il ic mO p r la lc):=D.o.q (uf (wG w) u);have Q:Hid (Bw w W):=uf (wG w) u;have x0:=ue (a:=(Ad w.heap.size 0)) (v:=Iv x.e) (cN w.heap.size rfl rfl) u;have x1:=ue (a:=(Ad w.heap.size 1)) (v:=Iv x.f) (cN w.heap.size rfl rfl) u;have x2:=ue (a:=(Ad w.heap.size 2)) (v:=Iv x.to) (cN w.heap.size rfl rfl) u;have x3:=ue (a:=(Ad w.heap.size 3)) (v:=Sl sa x.sl sc) (cN w.heap.size rfl rfl) u;have lw:w.heap.size<W.heap.size:=ud x0;have d9:W.cell? (Ad b 264)=some (Iv s.d):=m.o.c.c9;have aa:W.cell? (Ad b 265)=some (Iv s.label):=m.o.c.a;have f9:=m.o.c.fz 264;have ab:=m.o.c.fz 265;have ae:=m.o.bl;have af:=D.o.bl;have ac:b≠w.heap.size:=oM;clear u;cases B with
 |true =>
  have A:Hid (T=s.fail):=by show _=_;rw[z.o,Zp rfl]
  clear z;go_wp2_with fail;refine(jo K L b s.nx j il ic mO p r la lc m.o i.o.d i.o.e i.o.b i.o.a).mono ?_;rintro e G o;obtain⟨H,o⟩:=o;subst H;have F:Hid (wE (wD.fail s.nx) K L b j il ic mO _ _ G):=⟨rfl,o⟩;clear o;go_wp2;go_ret;rw[A.o];exact(F.o.below Q.o).fail
 |false =>
  have E:Hid (wO K L (W.setCell (Ad b 264) (Iv ((s.d:Int)+1))) b (wD.nx { s with d:=s.d+1 }) j il ic mO p r la lc):=by
   have h:=m.o.k (s':=wD.nx { s with d:=s.d+1 }) ((Bk.e _ W).set b 264 (Iv ((s.d+1:Nat):Int)) rfl) rfl rfl (m.o.c.n (s.d+1));rw[Mf,Int.natCast_one]at h;exact h
  have P:Hid (Kept (λy=>K y\/L y\/y=b) w (W.setCell (Ad b 264) (Iv ((s.d:Int)+1)))):=vm (vG (Kept.of Q.o) 264) (λy h=>.inr (.inr h));by_cases N:x.to<0
  ·have A:Hid (T=({ s with d:=s.d+1,label:=x.f }:wD).t 2):=(by show _=_;rw[z.o,Zn dC,Zp N]);clear z;go_wp2;go_ret;rw[A.o];have Y:wO K L ((W.setCell (Ad b 264) (Iv ((s.d:Int)+1))).setCell (Ad b 265) (Iv x.f)) b (wD.nx { s with d:=s.d+1,label:=x.f }) j il ic mO p r la lc:=E.o.k ((Bk.e _ _).set b 265 _ rfl) rfl rfl (E.o.c.h x.f);exact xy (t:=({ s with d:=s.d+1,label:=x.f }:wD).t 2) Y (yC P.o (vm (vG (xW _) 265) (λy h=>.inr (.inr h)))) rfl ⟨_,_,rfl⟩
  have hto':¬x.to<0:=N;have A:Hid (T=wD.v { s with d:=s.d+1 } x mO):=by show _=_;rw[z.o,Zn dC,Zn N]
  clear z;have Z:AP mO { s with d:=s.d+1 }:=⟨i.o.m1,i.o.c,i.o.b,i.o.a,i.o.g,i.o.e⟩;go_wp2_with fail;refine(KM K L b { s with d:=s.d+1 } x sa sc j il ic I mO p r la lc _ E.o Z).mono ?_;rintro e G o;obtain⟨H,o⟩:=o;subst H;have F:Hid (wE (wD.v { s with d:=s.d+1 } x mO) K L b j il ic mO _ _ G):=⟨rfl,o⟩;go_wp2;go_ret;rw[A.o];exact F.a P
def L8 K L b s x sa sc i il ic I mO r t la lc w(m:wO K L w b s.nx i il ic mO r t la lc)(o:AP mO s)(p:x.e=4) :
  Cs 179 #[.pointer (Sm b 0),kL x sa sc] w (wE (s.q x il I mO) K L b i il ic mO w):=by
 have k:=ua o;have A:Hid (s.q x il I mO=(s.nx).n ⟨1,x.to,s.c,s.a.length⟩ mO):=by
  show _=_;unfold wD.q;simp only[p];simp[wD.w,wD.nx]
 rw[A.o];unfold kL;have u:=ua m;clear m o p;go_enter func179,ntmps179;go_wp2;have l:=uk w (Oc #[Iv x.e,Iv x.f,Iv x.to,Sl sa x.sl sc] 202);have G:(w.alloc (Oc #[Iv x.e,Iv x.f,Iv x.to,Sl sa x.sl sc] 202)).cell? (Ad w.heap.size 2)=some (Iv x.to):=cN w.heap.size rfl rfl;generalize w.alloc (Oc #[Iv x.e,Iv x.f,Iv x.to,Sl sa x.sl sc] 202)=X at *;have B:=ua l;have j:=ua (u.q l);have C:Hid (∀W,Bw X W->W.cell? (Ad w.heap.size 2)=some (Iv x.to)):=λW E=>ue G E
 clear l;go_region_with (first
  |(go_at_call 209;refine(AL b s.c s.a.length lc la (j.q (wI X).drew).c.c3 (j.q (wI X).drew).c.c5).mono ?_;rintro e W ⟨rfl,h⟩;have y2:=C W (uf (wI X).drew h);have y:=ua (j.q (uf (wI X).drew h));have z:=ua (uf (wI X).drew h);clear h)
  |(go_at_call 207;refine(Um K L b s.nx ⟨1,x.to,s.c,s.a.length⟩ _ _ i il ic mO r t la lc _ y k.d k.c k.e (by unfold Hn;simp)).mono ?_;rintro e D g;obtain⟨F,g⟩:=g;subst F;have v:Hid (wE (wD.n s.nx ⟨1,x.to,s.c,s.a.length⟩ mO) K L b i il ic mO _ _ D):=⟨rfl,g⟩;clear g))
 all_goals
  go_wp2;go_ret;exact(v.below z).below B
def L9:(prog.info? 99).map (λi=>(i.zero,i.size,i.bytes))=some (some (.agg #[Iv 0,Iv 0,Iv 0]),3,24):=rR
def M0:vA 42 99 3 24:=⟨underlying42,⟨_,L9,rfl⟩,oM⟩
def Pi(e:Au):Obj:=.cells #[Iv e.e,Iv e.f,Iv e.c] 99
def M1(w:Wl)(e:Au):Src prog 3 42 (Sl (Sm w.heap.size 0) 1 1) 1 (Hp e) (w.alloc (Pi e)):=by
 refine Gj (P:=prog) _ underlying42 (Ad w.heap.size 0) 1 1 (Hp e) rfl (λj u a=>?_) (λu a=>?_)
 ·have e':((Ad w.heap.size 0):Addr).add j=(Ad w.heap.size j):=by
   by_cases b:j=0
   ·subst b;simp[Addr.add]
   simp[Addr.add,b]
  rw[e'];match j,a with
  |0,a=>exact cN w.heap.size rfl a
  |1,a=>exact cN w.heap.size rfl a
  |2,a=>exact cN w.heap.size rfl a
  |j+3,a=>simp[Hp]at a
 simp[Hp]at a;rcases a with rfl|rfl|rfl<;>rfl
def M2{ops:Array Oper}{o:Oper}{a:Act}{w:Wl}{K:Act->World->Prop}{g:Exit->Act->World->Prop}{E:Prop}(j:o.guard=none)(s x:Operand)(n:o.op=.call { callee:=.builtin .append,args:=#[s,x],argTypes:=#[42,42] })
  {L:Np} {w1:Wl} {v y:Vl} {m:Nat} {cs:List Value} {d:Au} (p:a.eval s=v) (r:a.eval x=y) (t:y=Sl (Sm w1.heap.size 0) 1 1) (q:w=w1.alloc (Pi d)) (h:wC L w1 v 3 m cs) (l:∀b,L b->b<w1.heap.size) (z:m<=4194304)
  (k:∀w' c e,Hid (wC (λb=>L b\/(w1.alloc (Pi d)).heap.size<=b) w' (Sl c (m+1) e) 3 (m+1) (cs++Hp d))->Hid (wS (λb=>L b) (w1.alloc (Pi d)) w')->K (a.put o.dst (Sl c (m+1) e)) w'):if Region.wanted o (yielded ops a.tmps)=true then Oper.wp prog o a w K g else E:=by
 subst q t;have b1:=uk w1 (Pi d);refine Qp j s x 42 42 n p r M0 (h.on (λb i=>b1.block b (l b i))) (M1 w1 d) oM (λ_=>Nat.one_pos) ?_;intro B w' f u A;obtain⟨c,e,rfl⟩:=uq f;exact k w' c e f u
def M3{K L:Np}{b:Nat}{s:wD}{k a:Int}{t:Oa}{il ic:Nat}{mO:Int}{v:Oa}{y:Nat}{la:Oa}{lc:Nat}{w Y W:Wl}{m:Oa}{n:Nat}(i:wO K L w b s.nx t il ic mO v y la lc)(I:s.e=false)(p:Bw w Y)(o:wS (λx=>L x) Y W)
  (F:wC (λx=>L x\/Y.heap.size<=x) W (Sl m (s.a.length+1) n) 3 (s.a.length+1) (uS s.a++Hp ⟨k,a,s.c⟩)) :
  wE (s.k k a) K L b t il ic mO w (Rt (Iv (-1))) (W.setCell (Ad b 5) (Sl m (s.a.length+1) n)):=by
 have H:=i.bl;have R:=p.size;have Q:=o.h;have Fi:∀x,x<w.heap.size->¬L x->W.heap[x]?=w.heap[x]?:=λx l r=>(o.d x oM r).trans (p.block x l)
 have G:=Fi b H i.lb;refine⟨by unfold jl;simp[wD.k,I],s.f+1,s.st,v,y,m,n,K,λx=>(L x\/Y.heap.size<=x)/\x<W.heap.size,λ_=>⟨rfl,rfl⟩,⟨?_,?_,?_,?_,?_,i.kb,?_⟩,λx l=>.inl l,?_,?_⟩
 ·show wY _ b _ t il ic mO v s.st.length y m (s.a++[_]).length n;rw[wK,Bs];have h:=(i.c.on G).e m (s.a.length+1) n;exact h.re rfl rfl rfl rfl rfl rfl rfl
 ·exact i.st.on (λx l=>(zJ _ (λe=>i.kb (by simp at e;exact e▸l))).trans (Fi x (i.lt x (.inl l)) (λq=>i.kl x l q)))
 ·show wC _ _ (Sl m (s.a++[_]).length n) 3 (s.a++[_]).length (uS (s.a++[_]));rw[uhO,wK,Bs];rcases F with⟨e,_⟩|⟨g,cap,e,B,C,D,E,z⟩
  ·injection e with _ e2;exact aB e2 oM
  have N:g<W.heap.size:=by
   obtain⟨u,P⟩:=Dt.1 (z 0 oM).1;exact ud P
  have O:g≠b:=λe=>by
   subst e;rcases B with q|q
   ·exact i.lb q
   omega
  have r:(W.setCell (Ad b 5) (Sl m (s.a.length+1) n)).heap[g]?=W.heap[g]?:=zJ _ O;exact .inr ⟨g,cap,e,⟨B,N⟩,C,D,λj J=>(zI (a:=(Ad g j)) r).trans (E j J),z.q r⟩
 ·intro x l;rw[uj];rcases l with q|q
  ·have:=i.lt x (.inl q);omega
  exact q.2
 ·rintro x h ⟨q|q,_⟩
  ·exact i.kl x h q
  have:=i.lt x (.inl h);omega
 ·rintro⟨q|q,_⟩
  ·exact i.lb q
  omega
 ·rintro x ⟨q|q,h⟩
  ·exact .inl q
  exact .inr ⟨oM,by rw[uj];exact h⟩
 refine⟨o.os.trans p.os,o.g.trans p.tape,o.f.trans p.output,by rw[uj];omega,λx l A=>(zJ _ (λe=>A (.inr (.inr e)))).trans (Fi x l (λq=>A (.inr (.inl q))))⟩
def qq K L b n kd s x sa sc A il ic mO S T la lc w(J:wO K L w b s.nx A il ic mO S T la lc)(u:AP mO s)(t:w.cell? (Ad n 0)=some (Iv kd))(O:¬L n) :
  Cs 211 #[.pointer (Sm b 0),kL x sa sc,.pointer (Sm n 0)] w (wE (s.k kd x.f) K L b A il ic mO w):=by
 have m:=ua J;have G:=ua u;have P:=u.g;unfold kL;go_enter func211,ntmps211;go_wp2;have l:=uk w (Oc #[Iv x.e,Iv x.f,Iv x.to,Sl sa x.sl sc] 202);have x1:(w.alloc (Oc #[Iv x.e,Iv x.f,Iv x.to,Sl sa x.sl sc] 202)).cell? (Ad w.heap.size 1)=some (Iv x.f):=cN w.heap.size rfl rfl;have Q:(w.alloc (Oc #[Iv x.e,Iv x.f,Iv x.to,Sl sa x.sl sc] 202)).heap.size=w.heap.size+1:=sM;generalize w.alloc (Oc #[Iv x.e,Iv x.f,Iv x.to,Sl sa x.sl sc] 202)=X at *;have H:=ua l;have i:=ua (m.q l);have R:=ue t l;have c3:=i.c.c3;have I:X.cell? (Ad b 5)=some (Sl la s.a.length lc):=i.c.c5;have U:=i.bl;have aa:=ud R;have ab:w.heap.size<X.heap.size:=oM;obtain⟨ln,j⟩:∃ln,s.a.length=ln:=⟨_,rfl⟩;have D:=ua j;rw[j]at I P;have F:Hid (wC L X.drew (Sl la ln lc) 3 ln (uS s.a)):=by
  have h:=i.a;rw[show s.nx.a.length=ln from j]at h;exact h.on (λy z=>rfl)
 have E:Hid (∀y,L y->y<X.drew.heap.size):=λy z=>i.lt y (.inr z)
 have C:Hid (∀W o,wS (λy=>L y) (X.drew.alloc o) W->W.cell? (Ad b 5)=some (Sl la ln lc)/\W.frozen? (Ad b 5)=false):=λW o N=>by
  have e:=(N.d b sO m.lb).trans (Hg X.drew _ _ U);exact⟨(zI (a:=(Ad b 5)) e).trans (by have:=i.c.c5;rw[show s.nx.a.length=ln from j]at this;exact this),(Ec (a:=(Ad b 5)) e).trans (i.c.fz 5)⟩
 clear t l Q j O;go_region_law (first
  |(refine M2 rfl (.tmp 10) (.tmp 19) rfl (w1:=X.drew) (L:=L) (v:=Sl la ln lc) (y:=Sl (Sm X.heap.size 0) 1 1) (cs:=uS s.a) (d:=⟨kd,x.f,s.c⟩) (by simp[Act.eval]) (by simp[Act.eval]) rfl rfl F.o E.o oM ?_;intro W4 V Z B p;obtain⟨r5,v5⟩:=C W4 _ p))
 all_goals go_goals
 all_goals go_wp2
 all_goals go_ret
 all_goals
  have r:=B;rw[<-D.o]at r ⊢;exact(M3 (Y:=X.drew.alloc (Pi ⟨kd,x.f,s.c⟩)) m G.e (uf H (uf (wI X).drew (wG X.drew))) p r)
end Go.Proofs.YtoihadcablknpaaGreatDoor
