import Derived.Test.YtpghlcdkfldlpaaGreatT12
set_option linter.unusedVariables false
set_option linter.unusedSimpArgs false
set_option maxHeartbeats 40000000
set_option maxRecDepth 100000
namespace Go.Proofs.YtpghlcdkfldlpaaGreat
open Go.RowKit
open M (OpD ue Gr TX uP uet vT jA setT b1 grp)
def yf(s:ByteArray)(w:World)(e:Ending)(w':World):Prop:=e=.returned (.string s)/\Below w.heap.size w w'
theorem upl{q}(h:0<=q/\q<=15)w:(Instr.slice 9 (.string urP) (some (.int .i64 q)) (some (.int .i64 (q+1))) none).run Tryz.prog w=.ok (.string (b1 (uet q))) w:=by
 rcases uk7 h with h|h|h|h|h|h|h|h|h|h|h|h|h|h|h|h<;>subst h<;>kernel_rfl
theorem uaz q w(h:0<=q/\q<=15):Calls Tryz.prog 142 #[.int .i64 q] w (yf (b1 (uet q)) w):=by
 have a:=upl h;unfold urP at a;have b:=h.1;have c:=h.2;go_enter Tryz.func142,Tryz.ntmps142;go_wp2;go_ret;exact⟨rfl,Below.refl _ _⟩
theorem ud0(w:World)(z:Int)(h:0<=z/\z<=255):(convert 22 9 (.slice (some ⟨w.heap.size,0,none⟩) 1 1)).run Tryz.prog (w.alloc (.cells #[.int .u8 z] 5))=.ok (.string (b1 (UInt8.ofNat z.toNat))) (w.alloc (.cells #[.int .u8 z] 5)):=by
 have a:Ints (λ_=>True) .u8 (w.alloc (.cells #[.int .u8 z] 5)) (some ⟨w.heap.size,0,none⟩) 1 (λ_=>z):=.inr ⟨w.heap.size,0,rfl,trivial,λi b=>by
  obtain rfl:i=0:=by omega
  exact cN w.heap.size rfl rfl⟩
 rw[vD (λ_=>True) _ 1 1 (λ_=>z) _ a];have e:str 1 (λ_=>z)=b1 (UInt8.ofNat z.toNat):=by
  apply ByteArray.ext;apply Array.toList_inj.1;rw[jX];rfl
 rw[e]
theorem uD b w(n:0<=b/\b<=255):Calls Tryz.prog 121 #[.int .i64 b] w (yf (uP b) w):=by
 have s:=n.1;have f:=n.2;have o:=ua n;have c:=ud0 w b o;have y:=urQ o;by_cases g:b=10
 ·subst g;go_enter Tryz.func121,Tryz.ntmps121;go_wp2;go_ret;exact⟨rfl,Below.refl _ _⟩
 by_cases i:b=9
 ·subst i;go_enter Tryz.func121,Tryz.ntmps121;go_wp2;go_ret;exact⟨rfl,Below.refl _ _⟩
 by_cases h:b=13
 ·subst h;go_enter Tryz.func121,Tryz.ntmps121;go_wp2;go_ret;exact⟨rfl,Below.refl _ _⟩
 have z:(b==10)=false:=by simp[g]
 have B:(b==9)=false:=by simp[i]
 have A:(b==13)=false:=by simp[h]
 by_cases a:b=92\/b=34\/b=91\/b=93\/b=45\/b=94
 ·clear c y;rcases a with rfl|rfl|rfl|rfl|rfl|rfl
  ·have c:(convert 22 9 (.slice (some ⟨w.heap.size,0,none⟩) 1 1)).run Tryz.prog (w.alloc (.cells #[.int .u8 92] 5))=.ok (.string ⟨#[92]⟩) (w.alloc (.cells #[.int .u8 92] 5)):=ud0 w 92 ⟨by omega,by omega⟩;go_enter Tryz.func121,Tryz.ntmps121;go_wp2;go_ret;exact⟨rfl,uf w _⟩
  ·have c:(convert 22 9 (.slice (some ⟨w.heap.size,0,none⟩) 1 1)).run Tryz.prog (w.alloc (.cells #[.int .u8 34] 5))=.ok (.string ⟨#[34]⟩) (w.alloc (.cells #[.int .u8 34] 5)):=ud0 w 34 ⟨by omega,by omega⟩;go_enter Tryz.func121,Tryz.ntmps121;go_wp2;go_ret;exact⟨rfl,uf w _⟩
  ·have c:(convert 22 9 (.slice (some ⟨w.heap.size,0,none⟩) 1 1)).run Tryz.prog (w.alloc (.cells #[.int .u8 91] 5))=.ok (.string ⟨#[91]⟩) (w.alloc (.cells #[.int .u8 91] 5)):=ud0 w 91 ⟨by omega,by omega⟩;go_enter Tryz.func121,Tryz.ntmps121;go_wp2;go_ret;exact⟨rfl,uf w _⟩
  ·have c:(convert 22 9 (.slice (some ⟨w.heap.size,0,none⟩) 1 1)).run Tryz.prog (w.alloc (.cells #[.int .u8 93] 5))=.ok (.string ⟨#[93]⟩) (w.alloc (.cells #[.int .u8 93] 5)):=ud0 w 93 ⟨by omega,by omega⟩;go_enter Tryz.func121,Tryz.ntmps121;go_wp2;go_ret;exact⟨rfl,uf w _⟩
  ·have c:(convert 22 9 (.slice (some ⟨w.heap.size,0,none⟩) 1 1)).run Tryz.prog (w.alloc (.cells #[.int .u8 45] 5))=.ok (.string ⟨#[45]⟩) (w.alloc (.cells #[.int .u8 45] 5)):=ud0 w 45 ⟨by omega,by omega⟩;go_enter Tryz.func121,Tryz.ntmps121;go_wp2;go_ret;exact⟨rfl,uf w _⟩
  have c:(convert 22 9 (.slice (some ⟨w.heap.size,0,none⟩) 1 1)).run Tryz.prog (w.alloc (.cells #[.int .u8 94] 5))=.ok (.string ⟨#[94]⟩) (w.alloc (.cells #[.int .u8 94] 5)):=ud0 w 94 ⟨by omega,by omega⟩;go_enter Tryz.func121,Tryz.ntmps121;go_wp2;go_ret;exact⟨rfl,uf w _⟩
 have N:(b==92)=false:=by simp;exact λq=>a (by omega)
 have I:(b==34)=false:=by simp;exact λq=>a (by omega)
 have L:(b==91)=false:=by simp;exact λq=>a (by omega)
 have O:(b==93)=false:=by simp;exact λq=>a (by omega)
 have J:(b==45)=false:=by simp;exact λq=>a (by omega)
 have P:(b==94)=false:=by simp;exact λq=>a (by omega)
 by_cases d:32<=b/\b<=126
 ·have k:Hid (uP b=b1 (UInt8.ofNat b.toNat)):=by
   unfold uP;rw[if_neg g,if_neg i,if_neg h,if_neg a,if_pos d];rfl
  have C:=d.1;have D:=d.2;rw[<-k.out]at c;generalize uP b=u at *;go_enter Tryz.func121,Tryz.ntmps121;go_wp2;go_ret;exact⟨rfl,uf w _⟩
 have k:Hid (uP b=⟨#[92,120]⟩++b1 (uet (b / 16))++b1 (uet (b%16))):=by
  unfold uP;rw[if_neg g,if_neg i,if_neg h,if_neg a,if_neg d];rfl
 have F:b.tdiv 16=b / 16:=Int.tdiv_eq_ediv_of_nonneg s;have E:b.tmod 16=b%16:=Int.tmod_eq_emod_of_nonneg s;have G:IntKind.i64.wrap (b / 16)=b / 16:=by simp[IntKind.wrap,IntKind.bits,IntKind.signed];omega
 have H:IntKind.i64.wrap (b%16)=b%16:=by simp[IntKind.wrap,IntKind.bits,IntKind.signed];omega
 have p:Hid (0<=b / 16/\b / 16<=15):=⟨by omega,by omega⟩;have r:Hid (0<=b%16/\b%16<=15):=⟨by omega,by omega⟩;generalize b / 16=t at *;generalize b%16=v at *;by_cases x:32<=b
 ·have e8':¬b<=126:=λq=>d ⟨x,q⟩
  go_enter Tryz.func121,Tryz.ntmps121;go_wp2_with (first|(go_at_call 142;refine(uaz t _ p).mono ?_;rintro e W1 ⟨rfl,f⟩;have l:Hid (Below w.heap.size w W1):=f;clear f)|(go_at_call 142;refine(uaz v _ r).mono ?_;rintro e W2 ⟨rfl,j⟩;have m:Hid (Below w.heap.size w W2):=ud l j;clear j));go_ret;exact⟨by rw[k.out];rfl,m⟩
 clear g i h a d;go_enter Tryz.func121,Tryz.ntmps121;go_wp2_with (first|(go_at_call 142;refine(uaz t _ p).mono ?_;rintro e W1 ⟨rfl,f⟩;have l:Hid (Below w.heap.size w W1):=f;clear f)|(go_at_call 142;refine(uaz v _ r).mono ?_;rintro e W2 ⟨rfl,j⟩;have m:Hid (Below w.heap.size w W2):=ud l j;clear j));go_ret;exact⟨by rw[k.out];rfl,m⟩
theorem uX s c w(d:s.size<=16000000):Calls Tryz.prog 82 #[.string s,.bool c] w (yf (grp c s) w):=by
 have a:¬9223372036854775807<1+s.size:=by omega
 have b:¬9223372036854775807<1+s.size+1:=by omega
 cases c with
 |true =>
  go_enter Tryz.func82,Tryz.ntmps82;go_wp2;go_ret;exact⟨rfl,Below.refl _ _⟩
 |false =>
  go_enter Tryz.func82,Tryz.ntmps82;go_wp2;go_ret;exact⟨rfl,Below.refl _ _⟩
def ups(S:Nat->Int)(n:Nat)(w:World)(b a:Value)(wr:World):Prop :=
 ∃(k:Nat) (s:ByteArray),2*k<=n/\a=.int .i64 ((2*k:Nat):Int)/\b=.string s/\s=b1 91++jA S k/\Below w.heap.size w wr
theorem jw Qs a n c S w(hS:Ints Qs .i64 w a n S)(hC:M.Canon n S):Calls Tryz.prog 81 #[.slice a n c] w (yf (setT n S) w):=by
 have R:=ua hS;have Q:=ua hC;have hn:=M.canon_len hC;have a4:=hC.1;clear hS hC;by_cases eA:n=2/\S 0=0/\S 1=255
 ·obtain⟨rfl,N,af⟩:=eA;have F:Hid (setT 2 S=b1 46):=by show _=_;unfold setT;rw[if_pos ⟨rfl,N,af⟩]
  rcases R.out with q|⟨W,so,rfl,G,g⟩
  ·omega
  have D:=g 0 (by omega);have L:=g 1 (by omega);rw[N]at D;rw[af]at L;simp only[Nat.add_zero]at D;clear g G N af;go_enter Tryz.func81,Tryz.ntmps81;go_wp2;go_ret;exact⟨by rw[F.out];rfl,Below.refl _ _⟩
 have ae:=ua eA;by_cases eB:n=2/\S 0=S 1
 ·obtain⟨rfl,ad⟩:=eB;have F:Hid (setT 2 S=b1 34++uP (S 0)++b1 34):=by show _=_;unfold setT;rw[if_neg ae.out,if_pos ⟨rfl,ad⟩]
  have am:=(ubD Q (k:=0) (by omega)).1;have ak:Hid (0<=S 0/\S 0<=255):=by show 0<=S 0/\S 0<=255;simpa using am
  have X:=M.byteT_size (S 0);have az:(S 0==S 1)=true:=by simp[ad]
  rcases R.out with q|⟨W,so,rfl,G,g⟩
  ·omega
  have D:=g 0 (by omega);have L:=g 1 (by omega);simp only[Nat.add_zero]at D;have E:¬9223372036854775807<1+(uP (S 0)).size:=by omega
  have z2:¬9223372036854775807<1+(uP (S 0)).size+1:=by omega
  clear g G am eA;by_cases N:S 0=0
  ·have f0:(S 0==0)=true:=(by simp[N]);have f1:(S 1==255)=false:=(by simp;omega);clear N ad;go_enter Tryz.func81,Tryz.ntmps81;go_wp2;go_region;go_wp2_with (go_at_call 121;refine(uD (S 0) _ ak).mono ?_;rintro e W2 ⟨rfl,d⟩;have BW:Hid (Below w.heap.size w W2):=(Below.refl _ w).drew.trans d;clear d);go_ret;exact⟨by rw[F.out];rfl,BW⟩
  have f0:(S 0==0)=false:=by simp[N]
  clear N ad;go_enter Tryz.func81,Tryz.ntmps81;go_wp2;go_region;go_wp2_with (go_at_call 121;refine(uD (S 0) _ ak).mono ?_;rintro e W2 ⟨rfl,d⟩;have BW:Hid (Below w.heap.size w W2):=(Below.refl _ w).drew.trans d;clear d);go_ret;exact⟨by rw[F.out];rfl,BW⟩
 have F:Hid (setT n S=b1 91++jA S (n / 2)++b1 93):=by show _=_;unfold setT;rw[if_neg ae.out,if_neg eB]
 have ay:=ua eB;by_cases aq:n=0
 ·subst aq;clear R;go_enter Tryz.func81,Tryz.ntmps81;go_wp2;go_region;go_wp2;go_loopw [3,4] (λT p wr=>ups S 0 w T p wr) (λ_ p _=>0-(intOf p).toNat)
  case atStart=>exact⟨0,b1 91,by omega,rfl,rfl,by rw[jA,ByteArray.append_empty],(Below.refl _ w).drew⟩
  case round =>
   obtain⟨k,s,hk,rfl,rfl,o,B⟩:=hrel;obtain rfl:k=0:=(by omega);have m:=ua o;have l:=ua B;have aj:s.size<=2000:=by
    rw[o,ByteArray.size_append,M.b1_size,jA,M.emp_size];omega
   have E:¬9223372036854775807<s.size+1:=(by omega);clear o B;go_wp2;go_ret;exact⟨by rw[F.out,<-m.out];rfl,l⟩
 obtain⟨W,so,rfl,a3,ag⟩:∃W so,a=some ⟨W,so,none⟩/\Qs W/\∀i,i<n->w.cell? ⟨W,so+i,none⟩=some (.int .i64 (S i)):=by
  rcases R.out with q|q
  ·exact absurd q aq
  exact q
 have x0:=ag 0 (by omega);have x1:=ag 1 (by omega);simp only[Nat.add_zero]at x0;clear ag a3;have an:¬n=2\/(n=2/\¬S 0=0)\/(n=2/\S 0=0/\¬S 1=255):=by
  by_cases q:n=2
  ·by_cases V:S 0=0
   ·exact .inr (.inr ⟨q,V,λq1=>ae ⟨q,V,q1⟩⟩)
   exact .inr (.inl ⟨q,V⟩)
  exact .inl q
 have a1:∃p0 U p2:Bool,((n:Int)==2)=p0/\(S 0==0)=U/\(S 1==255)=p2/\(p0&&U&&p2)=false/\(p0=true->(S 0==S 1)=false):=by
  refine⟨_,_,_,rfl,rfl,rfl,?_,λq=>?_⟩
  ·rcases an with q|⟨q,V⟩|⟨q,V,q1⟩
   ·have:((n:Int)==2)=false:=(by simp;omega);rw[this];rfl
   ·have:(S 0==0)=false:=(by simp[V]);rw[this];simp
   have:(S 1==255)=false:=(by simp[q1]);rw[this];simp
  have hq:n=2:=by simp at q;omega
  simp;exact λe=>ay ⟨hq,e⟩
 obtain⟨p0,U,p2,a5,a2,au,ah,ai⟩:=a1;clear an eA eB;go_enter Tryz.func81,Tryz.ntmps81;cases p0 with
 |false =>
  clear a2 au ah ai;go_wp2;go_region;go_wp2;go_loopw [3,4] (λT p wr=>ups S n w T p wr) (λ_ p _=>n-(intOf p).toNat)
  case atStart=>exact⟨0,b1 91,by omega,rfl,rfl,by rw[jA,ByteArray.append_empty],(Below.refl _ w).drew⟩
  case round =>
   obtain⟨k,s,hk,rfl,rfl,o,B⟩:=hrel;have m:=ua o;have l:=ua B;have aj:s.size<=2000:=by
    have h3:=M.midT_size S k;rw[o,ByteArray.size_append,M.b1_size];omega
   clear o B;by_cases ac:2*k<n
   ·obtain⟨r,t⟩:=ubD Q (k:=k) (by omega);have Y:=ua r;have J:=ua t;have ap:S (2*k)<=S (2*k+1):=by
     have:=(M.pairs_canon S (n / 2)).2 (by have:=Q.2;intro i b;exact this i (by omega)) k (by omega);exact this.2.1
    rcases R.out with q|⟨aw,ax,aa,G,g⟩
    ·omega
    cases aa;have H:=ua (g (2*k) ac);have I:=ua (g (2*k+1) (by omega));have D:=uc H l;have L:=uc I l;have X:=M.byteT_size (S (2*k));have t2:=M.byteT_size (S (2*k+1));have x:Hid (jA S (k+1)=jA S k++vT (S (2*k)) (S (2*k+1))):=rfl;have ao:2*k+1<n:=(by omega);have k0:=r.1;have k1:=r.2;have k2:=t.1;have k3:=t.2;clear g G r t;generalize S (2*k)=lo at *;generalize S (2*k+1)=b at *;generalize P:2*k=kk at *;have f:=ua P;clear P;have E:¬9223372036854775807<s.size+(uP lo).size:=(by omega);go_wp2_with fail;refine(uD lo _ Y).mono ?_;rintro e W2 ⟨rfl,d⟩;have h:=ua (ud l d);have d0:=uc H h;have d1:=uc I h;clear d D L;obtain⟨u,C⟩:=nm (uP lo);have y:=ua C;rw[C]at E X ⊢;clear C;have av:(s++u).size<=2004:=(by rw[ByteArray.size_append];omega);by_cases A:lo+1<b
    ·have j:Hid (vT lo b=u++b1 45++uP b):=(by show _=_;unfold vT;rw[if_pos A,if_pos (by omega),y.out]);have al:lo<b:=(by omega);have z2:¬9223372036854775807<s.size+u.size+1:=(by omega);have z3:¬9223372036854775807<s.size+u.size+1+(uP b).size:=(by omega);go_wp2;go_region;go_wp2;go_region;go_wp2_with (go_at_call 121;refine(uD b _ J).mono ?_;rintro e z ⟨rfl,d⟩;have v:Hid (Below w.heap.size w z):=ud h.drew.drew d;clear d);go_roundw
     case rel=>exact⟨k+1,s++u++b1 45++uP b,by have:=f.out;omega,by have:=f.out;first|go_num|(congr 1;omega),rfl,by rw[m.out,x.out,j.out];simp only[ByteArray.append_assoc],v.out⟩
     case measure=>simp[intOf];omega
    by_cases O:lo<b
    ·have j:Hid (vT lo b=u++uP b):=(by show _=_;unfold vT;rw[if_neg A,if_pos O,ByteArray.append_empty,y.out]);have z3:¬9223372036854775807<s.size+u.size+(uP b).size:=(by omega);go_wp2;go_region;go_wp2;go_region;go_wp2_with (go_at_call 121;refine(uD b _ J).mono ?_;rintro e z ⟨rfl,d⟩;have v:Hid (Below w.heap.size w z):=ud h.drew.drew d;clear d);go_roundw
     case rel=>exact⟨k+1,s++u++uP b,by have:=f.out;omega,by have:=f.out;first|go_num|(congr 1;omega),rfl,by rw[m.out,x.out,j.out];simp only[ByteArray.append_assoc],v.out⟩
     case measure=>simp[intOf];omega
    have j:Hid (vT lo b=u):=(by show _=_;unfold vT;rw[if_neg A,if_neg O,ByteArray.append_empty,ByteArray.append_empty,y.out]);go_wp2;go_region;go_wp2;go_region;go_wp2;go_roundw
    case rel=>exact⟨k+1,s++u,by have:=f.out;omega,by have:=f.out;first|go_num|(congr 1;omega),rfl,by rw[m.out,x.out,j.out];simp only[ByteArray.append_assoc],h.out.drew.drew⟩
    case measure=>simp[intOf];omega
   have ab:2*k=n:=(by omega);have Z:Hid (k=n / 2):=(by show _=_;omega);have E:¬9223372036854775807<s.size+1:=(by omega);clear ab;go_wp2;go_ret;exact⟨by rw[F.out,<-Z.out,<-m.out];rfl,l⟩
 |true =>
  have az:=ai rfl;clear ai;have a0:(U=false)\/(U=true/\p2=false):=by
   cases U with
   |false=>exact .inl rfl
   |true=>exact .inr ⟨rfl,by simpa using ah⟩
  clear ah;rcases a0 with rfl|⟨rfl,rfl⟩
  ·clear au;go_wp2;go_region;go_wp2;go_loopw [3,4] (λT p wr=>ups S n w T p wr) (λ_ p _=>n-(intOf p).toNat)
   case atStart=>exact⟨0,b1 91,by omega,rfl,rfl,by rw[jA,ByteArray.append_empty],(Below.refl _ w).drew⟩
   case round =>
    obtain⟨k,s,hk,rfl,rfl,o,B⟩:=hrel;have m:=ua o;have l:=ua B;have aj:s.size<=2000:=by
     have h3:=M.midT_size S k;rw[o,ByteArray.size_append,M.b1_size];omega
    clear o B;by_cases ac:2*k<n
    ·obtain⟨r,t⟩:=ubD Q (k:=k) (by omega);have Y:=ua r;have J:=ua t;have ap:S (2*k)<=S (2*k+1):=by
      have:=(M.pairs_canon S (n / 2)).2 (by have:=Q.2;intro i b;exact this i (by omega)) k (by omega);exact this.2.1
     rcases R.out with q|⟨aw,ax,aa,G,g⟩
     ·omega
     cases aa;have H:=ua (g (2*k) ac);have I:=ua (g (2*k+1) (by omega));have D:=uc H l;have L:=uc I l;have X:=M.byteT_size (S (2*k));have t2:=M.byteT_size (S (2*k+1));have x:Hid (jA S (k+1)=jA S k++vT (S (2*k)) (S (2*k+1))):=rfl;have ao:2*k+1<n:=(by omega);have k0:=r.1;have k1:=r.2;have k2:=t.1;have k3:=t.2;clear g G r t;generalize S (2*k)=lo at *;generalize S (2*k+1)=b at *;generalize P:2*k=kk at *;have f:=ua P;clear P;have E:¬9223372036854775807<s.size+(uP lo).size:=(by omega);go_wp2_with fail;refine(uD lo _ Y).mono ?_;rintro e W2 ⟨rfl,d⟩;have h:=ua (ud l d);have d0:=uc H h;have d1:=uc I h;clear d D L;obtain⟨u,C⟩:=nm (uP lo);have y:=ua C;rw[C]at E X ⊢;clear C;have av:(s++u).size<=2004:=(by rw[ByteArray.size_append];omega);by_cases A:lo+1<b
     ·have j:Hid (vT lo b=u++b1 45++uP b):=(by show _=_;unfold vT;rw[if_pos A,if_pos (by omega),y.out]);have al:lo<b:=(by omega);have z2:¬9223372036854775807<s.size+u.size+1:=(by omega);have z3:¬9223372036854775807<s.size+u.size+1+(uP b).size:=(by omega);go_wp2;go_region;go_wp2;go_region;go_wp2_with (go_at_call 121;refine(uD b _ J).mono ?_;rintro e z ⟨rfl,d⟩;have v:Hid (Below w.heap.size w z):=ud h.drew.drew d;clear d);go_roundw
      case rel=>exact⟨k+1,s++u++b1 45++uP b,by have:=f.out;omega,by have:=f.out;first|go_num|(congr 1;omega),rfl,by rw[m.out,x.out,j.out];simp only[ByteArray.append_assoc],v.out⟩
      case measure=>simp[intOf];omega
     by_cases O:lo<b
     ·have j:Hid (vT lo b=u++uP b):=(by show _=_;unfold vT;rw[if_neg A,if_pos O,ByteArray.append_empty,y.out]);have z3:¬9223372036854775807<s.size+u.size+(uP b).size:=(by omega);go_wp2;go_region;go_wp2;go_region;go_wp2_with (go_at_call 121;refine(uD b _ J).mono ?_;rintro e z ⟨rfl,d⟩;have v:Hid (Below w.heap.size w z):=ud h.drew.drew d;clear d);go_roundw
      case rel=>exact⟨k+1,s++u++uP b,by have:=f.out;omega,by have:=f.out;first|go_num|(congr 1;omega),rfl,by rw[m.out,x.out,j.out];simp only[ByteArray.append_assoc],v.out⟩
      case measure=>simp[intOf];omega
     have j:Hid (vT lo b=u):=(by show _=_;unfold vT;rw[if_neg A,if_neg O,ByteArray.append_empty,ByteArray.append_empty,y.out]);go_wp2;go_region;go_wp2;go_region;go_wp2;go_roundw
     case rel=>exact⟨k+1,s++u,by have:=f.out;omega,by have:=f.out;first|go_num|(congr 1;omega),rfl,by rw[m.out,x.out,j.out];simp only[ByteArray.append_assoc],h.out.drew.drew⟩
     case measure=>simp[intOf];omega
    have ab:2*k=n:=(by omega);have Z:Hid (k=n / 2):=(by show _=_;omega);have E:¬9223372036854775807<s.size+1:=(by omega);clear ab;go_wp2;go_ret;exact⟨by rw[F.out,<-Z.out,<-m.out];rfl,l⟩
  go_wp2;go_region;go_wp2;go_loopw [3,4] (λT p wr=>ups S n w T p wr) (λ_ p _=>n-(intOf p).toNat)
  case atStart=>exact⟨0,b1 91,by omega,rfl,rfl,by rw[jA,ByteArray.append_empty],(Below.refl _ w).drew⟩
  case round =>
   obtain⟨k,s,hk,rfl,rfl,o,B⟩:=hrel;have m:=ua o;have l:=ua B;have aj:s.size<=2000:=by
    have h3:=M.midT_size S k;rw[o,ByteArray.size_append,M.b1_size];omega
   clear o B;by_cases ac:2*k<n
   ·obtain⟨r,t⟩:=ubD Q (k:=k) (by omega);have Y:=ua r;have J:=ua t;have ap:S (2*k)<=S (2*k+1):=by
     have:=(M.pairs_canon S (n / 2)).2 (by have:=Q.2;intro i b;exact this i (by omega)) k (by omega);exact this.2.1
    rcases R.out with q|⟨aw,ax,aa,G,g⟩
    ·omega
    cases aa;have H:=ua (g (2*k) ac);have I:=ua (g (2*k+1) (by omega));have D:=uc H l;have L:=uc I l;have X:=M.byteT_size (S (2*k));have t2:=M.byteT_size (S (2*k+1));have x:Hid (jA S (k+1)=jA S k++vT (S (2*k)) (S (2*k+1))):=rfl;have ao:2*k+1<n:=(by omega);have k0:=r.1;have k1:=r.2;have k2:=t.1;have k3:=t.2;clear g G r t;generalize S (2*k)=lo at *;generalize S (2*k+1)=b at *;generalize P:2*k=kk at *;have f:=ua P;clear P;have E:¬9223372036854775807<s.size+(uP lo).size:=(by omega);go_wp2_with fail;refine(uD lo _ Y).mono ?_;rintro e W2 ⟨rfl,d⟩;have h:=ua (ud l d);have d0:=uc H h;have d1:=uc I h;clear d D L;obtain⟨u,C⟩:=nm (uP lo);have y:=ua C;rw[C]at E X ⊢;clear C;have av:(s++u).size<=2004:=(by rw[ByteArray.size_append];omega);by_cases A:lo+1<b
    ·have j:Hid (vT lo b=u++b1 45++uP b):=(by show _=_;unfold vT;rw[if_pos A,if_pos (by omega),y.out]);have al:lo<b:=(by omega);have z2:¬9223372036854775807<s.size+u.size+1:=(by omega);have z3:¬9223372036854775807<s.size+u.size+1+(uP b).size:=(by omega);go_wp2;go_region;go_wp2;go_region;go_wp2_with (go_at_call 121;refine(uD b _ J).mono ?_;rintro e z ⟨rfl,d⟩;have v:Hid (Below w.heap.size w z):=ud h.drew.drew d;clear d);go_roundw
     case rel=>exact⟨k+1,s++u++b1 45++uP b,by have:=f.out;omega,by have:=f.out;first|go_num|(congr 1;omega),rfl,by rw[m.out,x.out,j.out];simp only[ByteArray.append_assoc],v.out⟩
     case measure=>simp[intOf];omega
    by_cases O:lo<b
    ·have j:Hid (vT lo b=u++uP b):=(by show _=_;unfold vT;rw[if_neg A,if_pos O,ByteArray.append_empty,y.out]);have z3:¬9223372036854775807<s.size+u.size+(uP b).size:=(by omega);go_wp2;go_region;go_wp2;go_region;go_wp2_with (go_at_call 121;refine(uD b _ J).mono ?_;rintro e z ⟨rfl,d⟩;have v:Hid (Below w.heap.size w z):=ud h.drew.drew d;clear d);go_roundw
     case rel=>exact⟨k+1,s++u++uP b,by have:=f.out;omega,by have:=f.out;first|go_num|(congr 1;omega),rfl,by rw[m.out,x.out,j.out];simp only[ByteArray.append_assoc],v.out⟩
     case measure=>simp[intOf];omega
    have j:Hid (vT lo b=u):=(by show _=_;unfold vT;rw[if_neg A,if_neg O,ByteArray.append_empty,ByteArray.append_empty,y.out]);go_wp2;go_region;go_wp2;go_region;go_wp2;go_roundw
    case rel=>exact⟨k+1,s++u,by have:=f.out;omega,by have:=f.out;first|go_num|(congr 1;omega),rfl,by rw[m.out,x.out,j.out];simp only[ByteArray.append_assoc],h.out.drew.drew⟩
    case measure=>simp[intOf];omega
   have ab:2*k=n:=(by omega);have Z:Hid (k=n / 2):=(by show _=_;omega);have E:¬9223372036854775807<s.size+1:=(by omega);clear ab;go_wp2;go_ret;exact⟨by rw[F.out,<-Z.out,<-m.out];rfl,l⟩
theorem uiY z x{k}(h:k<z.length):lf (z++[x]) k=lf z k:=by
 unfold lf;rw[List.getD_eq_getElem?_getD,List.getD_eq_getElem?_getD,List.getElem?_append_left h]
theorem uiZ z x:lf (z++[x]) z.length=x:=by
 unfold lf;rw[List.getD_eq_getElem?_getD,List.getElem?_append_right (Nat.le_refl _)];simp
def cl(M:Nat->Bool):Nat->List Int
 |0=>[]
 |b+1=>if M b=true then (if b≠0/\M (b-1)=true then (cl M b).dropLast++[(b:Int)] else cl M b++[(b:Int),(b:Int)]) else cl M b
theorem uf2 M:∀b,(b≠0/\M (b-1)=true->(cl M b).getLast? = some ((b:Int)-1))/\∀x,(cl M b).getLast? = some x->x<=(b:Int)-1/\(¬(b≠0/\M (b-1)=true)->x<(b:Int)-1)
 |0=>⟨λh=>absurd rfl h.1,λx h=>by simp[cl]at h⟩
 |b+1=>by
  obtain⟨f,d⟩:=uf2 M b;cases a:M b with
  |false =>
   have e:cl M (b+1)=cl M b:=(by rw[cl,a];simp);rw[e];refine⟨λh=>?_,λx c=>?_⟩
   ·have:=h.2;rw[Nat.add_sub_cancel,a]at this;cases this
   have:=(d x c).1;exact⟨by omega,λ_=>by omega⟩
  |true =>
   have e:(cl M (b+1)).getLast? = some ((b:Int)):=by
    rw[cl,a];simp only[if_true];split
    ·simp
    simp
   rw[e];refine⟨λ_=>by congr 1;omega,λx c=>?_⟩;cases c;exact⟨by omega,λh=>absurd ⟨by omega,by rw[Nat.add_sub_cancel];exact a⟩ h⟩
theorem upL M:∀b,b<=256->rg M b=if b≠0/\M (b-1)=true/\b≠256/\M b=true then (cl M b).dropLast else cl M b
 |0,_=>by simp[rg,cl]
 |b+1,hb=>by
  have h:=upL M b (by omega);have e:cl M (b+1)=(if M b=true then (if b≠0/\M (b-1)=true then (cl M b).dropLast++[(b:Int)] else cl M b++[(b:Int),(b:Int)]) else cl M b):=rfl;rw[yU M b,h,e];generalize cl M b=L;have f:b≠256:=by omega
  cases a:M b with
  |false=>simp[a]
  |true =>
   by_cases d:b=0
   ·subst d;cases g:M 1<;>simp[a]
   cases i:M (b-1) with
   |false =>
    by_cases c:b=255
    ·subst c;simp[a]
    cases g:M (b+1)<;>simp[a,d,c,f]
   |true =>
    by_cases c:b=255
    ·subst c;simp[a]
    cases g:M (b+1)<;>simp[a,d,c,f]
theorem uff M:rg M 256=cl M 256:=by rw[upL M 256 (Nat.le_refl _),if_neg (λh=>h.2.2.1 rfl)]
theorem unI{l i x}(h:l[i]?=some x):lf l i=x:=by unfold lf;rw[List.getD_eq_getElem?_getD,h];rfl
theorem ui0{l b}(h:M.Canon l.length (lf l))(f:0<=b)(g:b<=255)(t:∀x,l.getLast? = some x->x+2<=b):M.Canon (l++[b,b]).length (lf (l++[b,b])):=by
 obtain⟨v,r⟩:=h;have u:(l++[b,b]).length=l.length+2:=by simp
 rw[u];have a:∀i,i<l.length->lf (l++[b,b]) i=lf l i:=λi j=>by unfold lf;rw[List.getD_eq_getElem?_getD,List.getD_eq_getElem?_getD,List.getElem?_append_left j]
 have d:lf (l++[b,b]) l.length=b:=unI (by rw[List.getElem?_append_right (Nat.le_refl _)];simp);have e:lf (l++[b,b]) (l.length+1)=b:=unI (by rw[List.getElem?_append_right (by omega)];simp);refine⟨by omega,λi j=>?_⟩;by_cases c:i<l.length
 ·obtain⟨m,n,o,p⟩:=r i c;refine⟨by rw[a i c];exact m,by rw[a i c];exact n,λq=>by rw[a i c,a (i-1) (by omega)];exact o q,λq=>by rw[a i c,a (i-1) (by omega)];exact p q⟩
 by_cases s:i=l.length
 ·subst s;refine⟨by rw[d];exact f,by rw[d];exact g,λq=>by omega,λq=>?_⟩;rw[d,a (l.length-1) (by omega)];refine t _ ?_;rw[List.getLast?_eq_getElem?];have k:l[l.length-1]?=some l[l.length-1]:=List.getElem?_eq_getElem (by omega);rw[k,unI k]
 obtain rfl:i=l.length+1:=by omega
 refine⟨by rw[e];exact f,by rw[e];exact g,λq=>by rw[e,Nat.add_sub_cancel,d];exact Int.le_refl _,λq=>by omega⟩
theorem ui1{l b x}(h:M.Canon (l++[x]).length (lf (l++[x])))(s:x<=b)(n:b<=255):M.Canon (l++[b]).length (lf (l++[b])):=by
 obtain⟨f,e⟩:=h;have k:(l++[x]).length=l.length+1:=by simp
 have m:(l++[b]).length=l.length+1:=by simp
 rw[k]at f e;rw[m];have c:∀y i,i<l.length->lf (l++[y]) i=lf l i:=λy i d=>uiY l y d
 refine⟨f,λi d=>?_⟩;have a:=e i d;by_cases g:i<l.length
 ·unfold M.CanAt at a ⊢;rw[c x i g,c x (i-1) (by omega)]at a;rw[c b i g,c b (i-1) (by omega)];exact a
 obtain rfl:i=l.length:=by omega
 unfold M.CanAt at a ⊢;rw[uiZ]at a ⊢;obtain⟨o,p,j,r⟩:=a;refine⟨by omega,n,λq=>?_,λq=>by omega⟩;have:=j q;rw[c x (l.length-1) (by omega)]at this;rw[c b (l.length-1) (by omega)];omega
theorem uhx m:∀b,b<=256->M.Canon (cl m b).length (lf (cl m b))
 |0,_=>⟨by simp[cl],λi g=>absurd g (by simp[cl])⟩
 |b+1,hb=>by
  have a:=uhx m b (by omega);obtain⟨d,e⟩:=uf2 m b;rw[cl];split
  ·split
   ·rename_i c;obtain⟨X,f⟩:=List.getLast?_eq_some_iff.1 (d c);rw[f]at a ⊢;rw[List.dropLast_concat];exact ui1 a (by omega) (by omega)
   rename_i c;exact ui0 a (by omega) (by omega) (λx h=>by have:=(e x h).2 c;omega)
  exact a
theorem unJ m:M.Canon (rg m 256).length (lf (rg m 256)):=by
 rw[uff];exact uhx m 256 (Nat.le_refl _)
structure Tx where
 n:Nat
 T:Nat->Int
 byt:∀i,0<=T i/\T i<=255
 le:n<=1048576
def TxA(Q:Nat->Prop)(w:World)(a:Option Addr)(t:Tx):Prop:=Ints Q .u8 w a t.n t.T
theorem TxA.at{Q w a t}(h:TxA Q w a t){i}(c:i<t.n):∃b off,a=some ⟨b,off,none⟩/\Q b/\∀j,j<t.n->w.cell? ⟨b,off+j,none⟩=some (.int .u8 (t.T j)):=by
 rcases h with h|h
 ·omega
 exact h
def udt(c:Int):Option Nat:=if 48<=c/\c<=57 then some (c-48).toNat else if 97<=c/\c<=102 then some (c-87).toNat else if 65<=c/\c<=70 then some (c-55).toNat else none
def uaC(c:Int):Int:=match udt c with|some x=>x|none=>-1
def umm(c:Int):Prop:=c=92\/c=34\/c=91\/c=93\/c=45\/c=94
instance (c:Int):Decidable (umm c):=by unfold umm;infer_instance
def esc(t:Tx)(i:Nat):Int×Nat :=
 if t.n<=i+1\/t.T i≠92 then (0,0)
 else if t.T (i+1)=110 then (10,2)
 else if t.T (i+1)=116 then (9,2)
 else if t.T (i+1)=114 then (13,2)
 else if umm (t.T (i+1)) then (t.T (i+1),2)
 else if t.T (i+1)=120/\i+3<t.n/\0<=uaC (t.T (i+2))/\0<=uaC (t.T (i+3)) then (uaC (t.T (i+2))*16+uaC (t.T (i+3)),4)
 else (0,0)
def chr(t:Tx)(i:Nat)(cls:Bool):Int×Nat :=
 if t.n<=i\/t.T i=10 then (0,0)
 else if t.T i=92 then esc t i
 else if cls=true/\(t.T i=93\/t.T i=45\/t.T i=94) then (0,0)
 else if cls=false/\t.T i=34 then (0,0)
 else (t.T i,1)
def eol(t:Tx):Nat->Nat->Nat
 |0,i=>i
 |f+1,i=>if i<t.n/\t.T i≠10 then eol t f (i+1) else i
def wsP(c:Int):Prop:=c=32\/c=9\/c=13\/c=10
instance (c:Int):Decidable (wsP c):=by unfold wsP;infer_instance
def skp(t:Tx):Nat->Nat->Nat
 |0,i=>i
 |f+1,i=>if i<t.n then (if wsP (t.T i) then skp t f (i+1) else if t.T i=35 then skp t f (eol t (t.n-i) i) else i) else i
def skip(t:Tx)(i:Nat):Nat:=skp t (t.n-i) i
theorem uih t:∀f i,i<=eol t f i
 |0,i=>Nat.le_refl _
 |f+1,i=>by
  rw[eol];split
  ·exact Nat.le_trans (Nat.le_succ i) (uih t f (i+1))
  exact Nat.le_refl _
theorem uii t:∀f i,i<=t.n->eol t f i<=t.n
 |0,i,h=>h
 |f+1,i,h=>by
  rw[eol];split
  ·exact uii t f (i+1) (by omega)
  exact h
theorem ugS t:∀f g i,t.n-i<=f->t.n-i<=g->eol t f i=eol t g i
 |f,g,i,h,k=>by
  by_cases a:i<t.n
  ·obtain⟨f,rfl⟩:∃q,f=q+1:=⟨f-1,by omega⟩;obtain⟨g,rfl⟩:∃q,g=q+1:=⟨g-1,by omega⟩;rw[eol,eol,ugS t f g (i+1) (by omega) (by omega)]
  cases f<;>cases g<;>simp[eol,a]
def qF(t:Tx)(i:Nat):Nat:=eol t (t.n-i) i
theorem ueW t i:qF t i=if i<t.n/\t.T i≠10 then qF t (i+1) else i:=by
 unfold qF;by_cases a:i<t.n
 ·rw[ugS t (t.n-i) ((t.n-(i+1))+1) i (by omega) (by omega),eol]
 rw[show t.n-i=0 by omega,if_neg (λq=>a q.1),eol]
theorem ufL t{i}(h:i<t.n)(a:t.T i=35):i<qF t i/\qF t i<=t.n:=by
 rw[ueW,if_pos ⟨h,by omega⟩];exact⟨uih t _ (i+1),uii t _ (i+1) (by omega)⟩
theorem ubu t:∀f g i,t.n-i<=f->t.n-i<=g->skp t f i=skp t g i
 |f,g,i,h,k=>by
  by_cases a:i<t.n
  ·obtain⟨f,rfl⟩:∃q,f=q+1:=⟨f-1,by omega⟩;obtain⟨g,rfl⟩:∃q,g=q+1:=⟨g-1,by omega⟩;rw[skp,skp,if_pos a,if_pos a,ubu t f g (i+1) (by omega) (by omega)];by_cases b:t.T i=35
   ·have:=ufL t a b;rw[ubu t f g (eol t (t.n-i) i) (by unfold qF at this;omega) (by unfold qF at this;omega)]
   simp[b]
  cases f<;>cases g<;>simp[skp,a]
theorem ukD t i:skip t i=if i<t.n then (if wsP (t.T i) then skip t (i+1) else if t.T i=35 then skip t (qF t i) else i) else i:=by
 unfold skip;by_cases a:i<t.n
 ·rw[if_pos a,ubu t (t.n-i) ((t.n-(i+1))+1) i (by omega) (by omega),skp,if_pos a];by_cases b:t.T i=35
  ·have:=ufL t a b;rw[show eol t (t.n-i) i=qF t i from rfl,ubu t (t.n-(i+1)) (t.n-qF t i) (qF t i) (by omega) (by omega)]
  simp[b]
 rw[if_neg a,show t.n-i=0 by omega,skp]
def ueR (k : Nat) : Int:=if k<10 then 48+k else 87+k
def ueS (k : Nat) : Int:=if k<10 then 48+k else 55+k
theorem ukB {c k}(b : k<16)(h : c=ueR k\/c=ueS k) : udt c=some k:=by
  unfold ueR ueS at h
  unfold udt
  by_cases a:k<10
  · simp only [if_pos a,or_self] at h
    rw [if_pos (by omega)]
    congr 1;omega
  · simp only [if_neg a] at h
    rcases h with h | h
    · rw [if_neg (by omega),if_pos (by omega)]
      congr 1;omega
    · rw [if_neg (by omega),if_neg (by omega),if_pos (by omega)]
      congr 1;omega
theorem ufJ {c k}(h : udt c=some k) : k<16/\(c=ueR k\/c=ueS k):=by
  unfold udt at h
  unfold ueR ueS
  by_cases a:48<=c/\c<=57
  · rw [if_pos a] at h
    injection h with h
    subst h
    refine ⟨by omega,.inl ?_⟩
    rw [if_pos (by omega)];omega
  rw [if_neg a] at h
  by_cases b:97<=c/\c<=102
  · rw [if_pos b] at h
    injection h with h
    subst h
    refine ⟨by omega,.inl ?_⟩
    rw [if_neg (by omega)];omega
  rw [if_neg b] at h
  by_cases d:65<=c/\c<=70
  · rw [if_pos d] at h
    injection h with h
    subst h
    refine ⟨by omega,.inr ?_⟩
    rw [if_neg (by omega)];omega
  rw [if_neg d] at h
  cases h
theorem ueT {c k}(h : udt c=some k) : uaC c=k:=by unfold uaC;rw [h]
theorem ueU {c}(h : udt c=none) : uaC c = -1:=by unfold uaC;rw [h]
theorem ucT c : -1<=uaC c/\uaC c<=15:=by
  cases h:udt c with
  | none=>rw [ueU h];omega
  | some k=>rw [ueT h];have:=(ufJ h).1;omega
theorem ubt c w(l : 0<=c)(m : c<=255) :
    Calls Tryz.prog 148 #[.int .u8 c] w fun e w'=>e = .returned (.int .i64 (uaC c))/\w'=w:=by
  go_enter Tryz.func148,Tryz.ntmps148
  go_wp2
  go_loopw [5] (fun i wr=>∃ k:Nat,k<=16/\i = .int .i64 k/\wr=w/\∀ x,udt c=some x->k<=x) (fun i _=>16-(intOf i).toNat)
  case atStart=>exact ⟨0,Nat.zero_le _,rfl,rfl,fun x _=>Nat.zero_le _⟩
  case round =>
    obtain ⟨k,n,rfl,rfl,a⟩:=hrel
    have d:=ua a
    by_cases j:k<16
    · have b:Hid (c=ueR k\/c=ueS k->uaC c=k):=fun h=>ueT (ukB j h)
      have f:Hid (c≠ueR k->c≠ueS k->∀ x,udt c=some x->k+1<=x):=fun h g x a=>by
        have:=d x a
        have:=(ufJ a).2
        by_cases e:x=k
        · subst e
          exact absurd ‹_\/_› (fun q=>q.elim h g)
        · omega
      rcases (show k=0\/k=1\/k=2\/k=3\/k=4\/k=5\/k=6\/k=7\/k=8\/k=9\/k=10\/k=11\/k=12\/k=13\/k=14\/k=15 by omega) with rfl | rfl | rfl | rfl | rfl | rfl | rfl | rfl | rfl | rfl | rfl | rfl | rfl | rfl | rfl | rfl
      all_goals (
        go_wp2
        all_goals (first
          | (go_ret
             rename_i h
             exact ⟨uC (b (.inl (h.symm.trans rfl))).symm,rfl⟩)
          | (go_ret
             rename_i h
             exact ⟨uC (b (h.elim (fun q=>.inl ((eq_of_beq q).symm.trans rfl)) (fun q=>.inr ((eq_of_beq q).symm.trans rfl)))).symm,rfl⟩)
          | (rename_i h
             refine ⟨⟨_,?_,rfl,trivial,f (fun q=>?_) (fun q=>?_)⟩,by simp [intOf]⟩
             · decide
             · subst q;exact absurd h.1 (by decide)
             · subst q;exact absurd h.2 (by decide))))
    · obtain rfl:k=16:=by omega
      go_wp2
      go_ret
      refine ⟨uC ?_,rfl⟩
      cases h:udt c with
      | none=>exact (ueU h).symm
      | some x=>have:=d x h;have:=(ufJ h).1;omega
end Go.Proofs.YtpghlcdkfldlpaaGreat
