import Derived.Test.YtimfigongapdnaaGreatT14
set_option linter.unusedVariables false
set_option linter.unusedSimpArgs false
set_option maxHeartbeats 40000000
set_option maxRecDepth 100000
namespace Go.Proofs.YtimfigongapdnaaGreat
open Go.RowKit
open M (OpD ug Gr TX uM uez vM jf setT b1 grp)
def uqv(S:Nat->Int)(n:Nat)(w:World)(b a:Value)(wr:World):Prop :=
 ∃(k:Nat) (s:ByteArray),2*k<=n/\a=.int .i64 ((2*k:Nat):Int)/\b=.string s/\s=b1 91++jf S k/\Below w.heap.size w wr
theorem je Qs a n c S w(hS:Ints Qs .i64 w a n S)(hC:M.Canon n S):Calls Tryz.prog 83 #[.slice a n c] w (vZ (setT n S) w):=by
 have R:=ua hS;have Q:=ua hC;have hn:=M.canon_len hC;have a3:=hC.1;clear hS hC;by_cases eA:n=2/\S 0=0/\S 1=255
 ·obtain⟨rfl,N,ae⟩:=eA;have F:Hid (setT 2 S=b1 46):=by show _=_;unfold setT;rw[if_pos ⟨rfl,N,ae⟩]
  rcases R.out with q|⟨V,so,rfl,G,g⟩
  ·omega
  have D:=g 0 (by omega);have L:=g 1 (by omega);rw[N]at D;rw[ae]at L;simp only[Nat.add_zero]at D;clear g G N ae;go_enter Tryz.func83,Tryz.ntmps83;go_wp2;go_ret;exact⟨by rw[F.out];rfl,Below.refl _ _⟩
 have ad:=ua eA;by_cases eB:n=2/\S 0=S 1
 ·obtain⟨rfl,ac⟩:=eB;have F:Hid (setT 2 S=b1 34++uM (S 0)++b1 34):=by show _=_;unfold setT;rw[if_neg ad.out,if_pos ⟨rfl,ac⟩]
  have al:=(ubK Q (k:=0) (by omega)).1;have aj:Hid (0<=S 0/\S 0<=255):=by show 0<=S 0/\S 0<=255;simpa using al
  have W:=M.byteT_size (S 0);have ay:(S 0==S 1)=true:=by simp[ac]
  rcases R.out with q|⟨V,so,rfl,G,g⟩
  ·omega
  have D:=g 0 (by omega);have L:=g 1 (by omega);simp only[Nat.add_zero]at D;have E:¬9223372036854775807<1+(uM (S 0)).size:=by omega
  have z2:¬9223372036854775807<1+(uM (S 0)).size+1:=by omega
  clear g G al eA;by_cases N:S 0=0
  ·have f0:(S 0==0)=true:=(by simp[N]);have f1:(S 1==255)=false:=(by simp;omega);clear N ac;go_enter Tryz.func83,Tryz.ntmps83;go_wp2;go_region;go_wp2_with (go_at_call 129;refine(uE (S 0) _ aj).mono ?_;rintro e W2 ⟨rfl,d⟩;have BW:Hid (Below w.heap.size w W2):=(Below.refl _ w).drew.trans d;clear d);go_ret;exact⟨by rw[F.out];rfl,BW⟩
  have f0:(S 0==0)=false:=by simp[N]
  clear N ac;go_enter Tryz.func83,Tryz.ntmps83;go_wp2;go_region;go_wp2_with (go_at_call 129;refine(uE (S 0) _ aj).mono ?_;rintro e W2 ⟨rfl,d⟩;have BW:Hid (Below w.heap.size w W2):=(Below.refl _ w).drew.trans d;clear d);go_ret;exact⟨by rw[F.out];rfl,BW⟩
 have F:Hid (setT n S=b1 91++jf S (n / 2)++b1 93):=by show _=_;unfold setT;rw[if_neg ad.out,if_neg eB]
 have ax:=ua eB;by_cases ap:n=0
 ·subst ap;clear R;go_enter Tryz.func83,Tryz.ntmps83;go_wp2;go_region;go_wp2;go_loopw [3,4] (λT p wr=>uqv S 0 w T p wr) (λ_ p _=>0-(intOf p).toNat)
  case atStart=>exact⟨0,b1 91,by omega,rfl,rfl,by rw[jf,ByteArray.append_empty],(Below.refl _ w).drew⟩
  case round =>
   obtain⟨k,s,hk,rfl,rfl,o,B⟩:=hrel;obtain rfl:k=0:=(by omega);have m:=ua o;have l:=ua B;have ai:s.size<=2000:=by
    rw[o,ByteArray.size_append,M.b1_size,jf,M.emp_size];omega
   have E:¬9223372036854775807<s.size+1:=(by omega);clear o B;go_wp2;go_ret;exact⟨by rw[F.out,<-m.out];rfl,l⟩
 obtain⟨V,so,rfl,a2,af⟩:∃V so,a=some ⟨V,so,none⟩/\Qs V/\∀i,i<n->w.cell? ⟨V,so+i,none⟩=some (.int .i64 (S i)):=by
  rcases R.out with q|q
  ·exact absurd q ap
  exact q
 have x0:=af 0 (by omega);have x1:=af 1 (by omega);simp only[Nat.add_zero]at x0;clear af a2;have am:¬n=2\/(n=2/\¬S 0=0)\/(n=2/\S 0=0/\¬S 1=255):=by
  by_cases q:n=2
  ·by_cases U:S 0=0
   ·exact .inr (.inr ⟨q,U,λq1=>ad ⟨q,U,q1⟩⟩)
   exact .inr (.inl ⟨q,U⟩)
  exact .inl q
 have a0:∃p0 p1 p2:Bool,((n:Int)==2)=p0/\(S 0==0)=p1/\(S 1==255)=p2/\(p0&&p1&&p2)=false/\(p0=true->(S 0==S 1)=false):=by
  refine⟨_,_,_,rfl,rfl,rfl,?_,λq=>?_⟩
  ·rcases am with q|⟨q,U⟩|⟨q,U,q1⟩
   ·have:((n:Int)==2)=false:=(by simp;omega);rw[this];rfl
   ·have:(S 0==0)=false:=(by simp[U]);rw[this];simp
   have:(S 1==255)=false:=(by simp[q1]);rw[this];simp
  have hq:n=2:=by simp at q;omega
  simp;exact λe=>ax ⟨hq,e⟩
 obtain⟨p0,p1,p2,a4,a1,aq,ag,ah⟩:=a0;clear am eA eB;go_enter Tryz.func83,Tryz.ntmps83;cases p0 with
 |false =>
  clear a1 aq ag ah;go_wp2;go_region;go_wp2;go_loopw [3,4] (λT p wr=>uqv S n w T p wr) (λ_ p _=>n-(intOf p).toNat)
  case atStart=>exact⟨0,b1 91,by omega,rfl,rfl,by rw[jf,ByteArray.append_empty],(Below.refl _ w).drew⟩
  case round =>
   obtain⟨k,s,hk,rfl,rfl,o,B⟩:=hrel;have m:=ua o;have l:=ua B;have ai:s.size<=2000:=by
    have h3:=M.midT_size S k;rw[o,ByteArray.size_append,M.b1_size];omega
   clear o B;by_cases ab:2*k<n
   ·obtain⟨r,t⟩:=ubK Q (k:=k) (by omega);have X:=ua r;have J:=ua t;have ao:S (2*k)<=S (2*k+1):=by
     have:=(M.pairs_canon S (n / 2)).2 (by have:=Q.2;intro i b;exact this i (by omega)) k (by omega);exact this.2.1
    rcases R.out with q|⟨av,aw,Z,G,g⟩
    ·omega
    cases Z;have H:=ua (g (2*k) ab);have I:=ua (g (2*k+1) (by omega));have D:=ue H l;have L:=ue I l;have W:=M.byteT_size (S (2*k));have t2:=M.byteT_size (S (2*k+1));have x:Hid (jf S (k+1)=jf S k++vM (S (2*k)) (S (2*k+1))):=rfl;have an:2*k+1<n:=(by omega);have k0:=r.1;have k1:=r.2;have k2:=t.1;have k3:=t.2;clear g G r t;generalize S (2*k)=lo at *;generalize S (2*k+1)=b at *;generalize P:2*k=kk at *;have f:=ua P;clear P;have E:¬9223372036854775807<s.size+(uM lo).size:=(by omega);go_wp2_with fail;refine(uE lo _ X).mono ?_;rintro e W2 ⟨rfl,d⟩;have h:=ua (uf l d);have d0:=ue H h;have d1:=ue I h;clear d D L;obtain⟨u,C⟩:=nm (uM lo);have y:=ua C;rw[C]at E W ⊢;clear C;have au:(s++u).size<=2004:=(by rw[ByteArray.size_append];omega);by_cases A:lo+1<b
    ·have j:Hid (vM lo b=u++b1 45++uM b):=(by show _=_;unfold vM;rw[if_pos A,if_pos (by omega),y.out]);have ak:lo<b:=(by omega);have z2:¬9223372036854775807<s.size+u.size+1:=(by omega);have z3:¬9223372036854775807<s.size+u.size+1+(uM b).size:=(by omega);go_wp2;go_region;go_wp2;go_region;go_wp2_with (go_at_call 129;refine(uE b _ J).mono ?_;rintro e z ⟨rfl,d⟩;have v:Hid (Below w.heap.size w z):=uf h.drew.drew d;clear d);go_roundw
     case rel=>exact⟨k+1,s++u++b1 45++uM b,by have:=f.out;omega,by have:=f.out;first|go_num|(congr 1;omega),rfl,by rw[m.out,x.out,j.out];simp only[ByteArray.append_assoc],v.out⟩
     case measure=>simp[intOf];omega
    by_cases O:lo<b
    ·have j:Hid (vM lo b=u++uM b):=(by show _=_;unfold vM;rw[if_neg A,if_pos O,ByteArray.append_empty,y.out]);have z3:¬9223372036854775807<s.size+u.size+(uM b).size:=(by omega);go_wp2;go_region;go_wp2;go_region;go_wp2_with (go_at_call 129;refine(uE b _ J).mono ?_;rintro e z ⟨rfl,d⟩;have v:Hid (Below w.heap.size w z):=uf h.drew.drew d;clear d);go_roundw
     case rel=>exact⟨k+1,s++u++uM b,by have:=f.out;omega,by have:=f.out;first|go_num|(congr 1;omega),rfl,by rw[m.out,x.out,j.out];simp only[ByteArray.append_assoc],v.out⟩
     case measure=>simp[intOf];omega
    have j:Hid (vM lo b=u):=(by show _=_;unfold vM;rw[if_neg A,if_neg O,ByteArray.append_empty,ByteArray.append_empty,y.out]);go_wp2;go_region;go_wp2;go_region;go_wp2;go_roundw
    case rel=>exact⟨k+1,s++u,by have:=f.out;omega,by have:=f.out;first|go_num|(congr 1;omega),rfl,by rw[m.out,x.out,j.out];simp only[ByteArray.append_assoc],h.out.drew.drew⟩
    case measure=>simp[intOf];omega
   have aa:2*k=n:=(by omega);have Y:Hid (k=n / 2):=(by show _=_;omega);have E:¬9223372036854775807<s.size+1:=(by omega);clear aa;go_wp2;go_ret;exact⟨by rw[F.out,<-Y.out,<-m.out];rfl,l⟩
 |true =>
  have ay:=ah rfl;clear ah;have az:(p1=false)\/(p1=true/\p2=false):=by
   cases p1 with
   |false=>exact .inl rfl
   |true=>exact .inr ⟨rfl,by simpa using ag⟩
  clear ag;rcases az with rfl|⟨rfl,rfl⟩
  ·clear aq;go_wp2;go_region;go_wp2;go_loopw [3,4] (λT p wr=>uqv S n w T p wr) (λ_ p _=>n-(intOf p).toNat)
   case atStart=>exact⟨0,b1 91,by omega,rfl,rfl,by rw[jf,ByteArray.append_empty],(Below.refl _ w).drew⟩
   case round =>
    obtain⟨k,s,hk,rfl,rfl,o,B⟩:=hrel;have m:=ua o;have l:=ua B;have ai:s.size<=2000:=by
     have h3:=M.midT_size S k;rw[o,ByteArray.size_append,M.b1_size];omega
    clear o B;by_cases ab:2*k<n
    ·obtain⟨r,t⟩:=ubK Q (k:=k) (by omega);have X:=ua r;have J:=ua t;have ao:S (2*k)<=S (2*k+1):=by
      have:=(M.pairs_canon S (n / 2)).2 (by have:=Q.2;intro i b;exact this i (by omega)) k (by omega);exact this.2.1
     rcases R.out with q|⟨av,aw,Z,G,g⟩
     ·omega
     cases Z;have H:=ua (g (2*k) ab);have I:=ua (g (2*k+1) (by omega));have D:=ue H l;have L:=ue I l;have W:=M.byteT_size (S (2*k));have t2:=M.byteT_size (S (2*k+1));have x:Hid (jf S (k+1)=jf S k++vM (S (2*k)) (S (2*k+1))):=rfl;have an:2*k+1<n:=(by omega);have k0:=r.1;have k1:=r.2;have k2:=t.1;have k3:=t.2;clear g G r t;generalize S (2*k)=lo at *;generalize S (2*k+1)=b at *;generalize P:2*k=kk at *;have f:=ua P;clear P;have E:¬9223372036854775807<s.size+(uM lo).size:=(by omega);go_wp2_with fail;refine(uE lo _ X).mono ?_;rintro e W2 ⟨rfl,d⟩;have h:=ua (uf l d);have d0:=ue H h;have d1:=ue I h;clear d D L;obtain⟨u,C⟩:=nm (uM lo);have y:=ua C;rw[C]at E W ⊢;clear C;have au:(s++u).size<=2004:=(by rw[ByteArray.size_append];omega);by_cases A:lo+1<b
     ·have j:Hid (vM lo b=u++b1 45++uM b):=(by show _=_;unfold vM;rw[if_pos A,if_pos (by omega),y.out]);have ak:lo<b:=(by omega);have z2:¬9223372036854775807<s.size+u.size+1:=(by omega);have z3:¬9223372036854775807<s.size+u.size+1+(uM b).size:=(by omega);go_wp2;go_region;go_wp2;go_region;go_wp2_with (go_at_call 129;refine(uE b _ J).mono ?_;rintro e z ⟨rfl,d⟩;have v:Hid (Below w.heap.size w z):=uf h.drew.drew d;clear d);go_roundw
      case rel=>exact⟨k+1,s++u++b1 45++uM b,by have:=f.out;omega,by have:=f.out;first|go_num|(congr 1;omega),rfl,by rw[m.out,x.out,j.out];simp only[ByteArray.append_assoc],v.out⟩
      case measure=>simp[intOf];omega
     by_cases O:lo<b
     ·have j:Hid (vM lo b=u++uM b):=(by show _=_;unfold vM;rw[if_neg A,if_pos O,ByteArray.append_empty,y.out]);have z3:¬9223372036854775807<s.size+u.size+(uM b).size:=(by omega);go_wp2;go_region;go_wp2;go_region;go_wp2_with (go_at_call 129;refine(uE b _ J).mono ?_;rintro e z ⟨rfl,d⟩;have v:Hid (Below w.heap.size w z):=uf h.drew.drew d;clear d);go_roundw
      case rel=>exact⟨k+1,s++u++uM b,by have:=f.out;omega,by have:=f.out;first|go_num|(congr 1;omega),rfl,by rw[m.out,x.out,j.out];simp only[ByteArray.append_assoc],v.out⟩
      case measure=>simp[intOf];omega
     have j:Hid (vM lo b=u):=(by show _=_;unfold vM;rw[if_neg A,if_neg O,ByteArray.append_empty,ByteArray.append_empty,y.out]);go_wp2;go_region;go_wp2;go_region;go_wp2;go_roundw
     case rel=>exact⟨k+1,s++u,by have:=f.out;omega,by have:=f.out;first|go_num|(congr 1;omega),rfl,by rw[m.out,x.out,j.out];simp only[ByteArray.append_assoc],h.out.drew.drew⟩
     case measure=>simp[intOf];omega
    have aa:2*k=n:=(by omega);have Y:Hid (k=n / 2):=(by show _=_;omega);have E:¬9223372036854775807<s.size+1:=(by omega);clear aa;go_wp2;go_ret;exact⟨by rw[F.out,<-Y.out,<-m.out];rfl,l⟩
  go_wp2;go_region;go_wp2;go_loopw [3,4] (λT p wr=>uqv S n w T p wr) (λ_ p _=>n-(intOf p).toNat)
  case atStart=>exact⟨0,b1 91,by omega,rfl,rfl,by rw[jf,ByteArray.append_empty],(Below.refl _ w).drew⟩
  case round =>
   obtain⟨k,s,hk,rfl,rfl,o,B⟩:=hrel;have m:=ua o;have l:=ua B;have ai:s.size<=2000:=by
    have h3:=M.midT_size S k;rw[o,ByteArray.size_append,M.b1_size];omega
   clear o B;by_cases ab:2*k<n
   ·obtain⟨r,t⟩:=ubK Q (k:=k) (by omega);have X:=ua r;have J:=ua t;have ao:S (2*k)<=S (2*k+1):=by
     have:=(M.pairs_canon S (n / 2)).2 (by have:=Q.2;intro i b;exact this i (by omega)) k (by omega);exact this.2.1
    rcases R.out with q|⟨av,aw,Z,G,g⟩
    ·omega
    cases Z;have H:=ua (g (2*k) ab);have I:=ua (g (2*k+1) (by omega));have D:=ue H l;have L:=ue I l;have W:=M.byteT_size (S (2*k));have t2:=M.byteT_size (S (2*k+1));have x:Hid (jf S (k+1)=jf S k++vM (S (2*k)) (S (2*k+1))):=rfl;have an:2*k+1<n:=(by omega);have k0:=r.1;have k1:=r.2;have k2:=t.1;have k3:=t.2;clear g G r t;generalize S (2*k)=lo at *;generalize S (2*k+1)=b at *;generalize P:2*k=kk at *;have f:=ua P;clear P;have E:¬9223372036854775807<s.size+(uM lo).size:=(by omega);go_wp2_with fail;refine(uE lo _ X).mono ?_;rintro e W2 ⟨rfl,d⟩;have h:=ua (uf l d);have d0:=ue H h;have d1:=ue I h;clear d D L;obtain⟨u,C⟩:=nm (uM lo);have y:=ua C;rw[C]at E W ⊢;clear C;have au:(s++u).size<=2004:=(by rw[ByteArray.size_append];omega);by_cases A:lo+1<b
    ·have j:Hid (vM lo b=u++b1 45++uM b):=(by show _=_;unfold vM;rw[if_pos A,if_pos (by omega),y.out]);have ak:lo<b:=(by omega);have z2:¬9223372036854775807<s.size+u.size+1:=(by omega);have z3:¬9223372036854775807<s.size+u.size+1+(uM b).size:=(by omega);go_wp2;go_region;go_wp2;go_region;go_wp2_with (go_at_call 129;refine(uE b _ J).mono ?_;rintro e z ⟨rfl,d⟩;have v:Hid (Below w.heap.size w z):=uf h.drew.drew d;clear d);go_roundw
     case rel=>exact⟨k+1,s++u++b1 45++uM b,by have:=f.out;omega,by have:=f.out;first|go_num|(congr 1;omega),rfl,by rw[m.out,x.out,j.out];simp only[ByteArray.append_assoc],v.out⟩
     case measure=>simp[intOf];omega
    by_cases O:lo<b
    ·have j:Hid (vM lo b=u++uM b):=(by show _=_;unfold vM;rw[if_neg A,if_pos O,ByteArray.append_empty,y.out]);have z3:¬9223372036854775807<s.size+u.size+(uM b).size:=(by omega);go_wp2;go_region;go_wp2;go_region;go_wp2_with (go_at_call 129;refine(uE b _ J).mono ?_;rintro e z ⟨rfl,d⟩;have v:Hid (Below w.heap.size w z):=uf h.drew.drew d;clear d);go_roundw
     case rel=>exact⟨k+1,s++u++uM b,by have:=f.out;omega,by have:=f.out;first|go_num|(congr 1;omega),rfl,by rw[m.out,x.out,j.out];simp only[ByteArray.append_assoc],v.out⟩
     case measure=>simp[intOf];omega
    have j:Hid (vM lo b=u):=(by show _=_;unfold vM;rw[if_neg A,if_neg O,ByteArray.append_empty,ByteArray.append_empty,y.out]);go_wp2;go_region;go_wp2;go_region;go_wp2;go_roundw
    case rel=>exact⟨k+1,s++u,by have:=f.out;omega,by have:=f.out;first|go_num|(congr 1;omega),rfl,by rw[m.out,x.out,j.out];simp only[ByteArray.append_assoc],h.out.drew.drew⟩
    case measure=>simp[intOf];omega
   have aa:2*k=n:=(by omega);have Y:Hid (k=n / 2):=(by show _=_;omega);have E:¬9223372036854775807<s.size+1:=(by omega);clear aa;go_wp2;go_ret;exact⟨by rw[F.out,<-Y.out,<-m.out];rfl,l⟩
theorem ujc z x{k}(h:k<z.length):lf (z++[x]) k=lf z k:=by
 unfold lf;rw[List.getD_eq_getElem?_getD,List.getD_eq_getElem?_getD,List.getElem?_append_left h]
theorem ujd z x:lf (z++[x]) z.length=x:=by
 unfold lf;rw[List.getD_eq_getElem?_getD,List.getElem?_append_right (Nat.le_refl _)];simp
def cl(M:Nat->Bool):Nat->List Int
 |0=>[]
 |b+1=>if M b=true then (if b≠0/\M (b-1)=true then (cl M b).dropLast++[(b:Int)] else cl M b++[(b:Int),(b:Int)]) else cl M b
theorem ugk M:∀b,(b≠0/\M (b-1)=true->(cl M b).getLast? = some ((b:Int)-1))/\∀x,(cl M b).getLast? = some x->x<=(b:Int)-1/\(¬(b≠0/\M (b-1)=true)->x<(b:Int)-1)
 |0=>⟨λh=>absurd rfl h.1,λx h=>by simp[cl]at h⟩
 |b+1=>by
  obtain⟨f,d⟩:=ugk M b;cases a:M b with
  |false =>
   have e:cl M (b+1)=cl M b:=(by rw[cl,a];simp);rw[e];refine⟨λh=>?_,λx c=>?_⟩
   ·have:=h.2;rw[Nat.add_sub_cancel,a]at this;cases this
   have:=(d x c).1;exact⟨by omega,λ_=>by omega⟩
  |true =>
   have e:(cl M (b+1)).getLast? = some ((b:Int)):=by
    rw[cl,a];simp only[if_true];split
    ·simp
    simp
   rw[e];refine⟨λ_=>by congr 1;omega,λx c=>?_⟩;cases c;exact⟨by omega,λh=>absurd ⟨by omega,by rw[Nat.add_sub_cancel];exact a⟩ h⟩
theorem uqR M:∀b,b<=256->rg M b=if b≠0/\M (b-1)=true/\b≠256/\M b=true then (cl M b).dropLast else cl M b
 |0,_=>by simp[rg,cl]
 |b+1,hb=>by
  have h:=uqR M b (by omega);have e:cl M (b+1)=(if M b=true then (if b≠0/\M (b-1)=true then (cl M b).dropLast++[(b:Int)] else cl M b++[(b:Int),(b:Int)]) else cl M b):=rfl;rw[yE M b,h,e];generalize cl M b=L;have f:b≠256:=by omega
  cases a:M b with
  |false=>simp[a]
  |true =>
   by_cases d:b=0
   ·subst d;cases g:M 1<;>simp[a]
   cases i:M (b-1) with
   |false =>
    by_cases c:b=255
    ·subst c;simp[a]
    cases g:M (b+1)<;>simp[a,d,c,f]
   |true =>
    by_cases c:b=255
    ·subst c;simp[a]
    cases g:M (b+1)<;>simp[a,d,c,f]
theorem ufl M:rg M 256=cl M 256:=by rw[uqR M 256 (Nat.le_refl _),if_neg (λh=>h.2.2.1 rfl)]
theorem uor{l i x}(h:l[i]?=some x):lf l i=x:=by unfold lf;rw[List.getD_eq_getElem?_getD,h];rfl
theorem uje{l b}(h:M.Canon l.length (lf l))(f:0<=b)(g:b<=255)(s:∀x,l.getLast? = some x->x+2<=b):M.Canon (l++[b,b]).length (lf (l++[b,b])):=by
 obtain⟨u,p⟩:=h;have t:(l++[b,b]).length=l.length+2:=by simp
 rw[t];have a:∀i,i<l.length->lf (l++[b,b]) i=lf l i:=λi j=>by unfold lf;rw[List.getD_eq_getElem?_getD,List.getD_eq_getElem?_getD,List.getElem?_append_left j]
 have d:lf (l++[b,b]) l.length=b:=uor (by rw[List.getElem?_append_right (Nat.le_refl _)];simp);have e:lf (l++[b,b]) (l.length+1)=b:=uor (by rw[List.getElem?_append_right (by omega)];simp);refine⟨by omega,λi j=>?_⟩;by_cases c:i<l.length
 ·obtain⟨m,n,c3,o⟩:=p i c;refine⟨by rw[a i c];exact m,by rw[a i c];exact n,λq=>by rw[a i c,a (i-1) (by omega)];exact c3 q,λq=>by rw[a i c,a (i-1) (by omega)];exact o q⟩
 by_cases r:i=l.length
 ·subst r;refine⟨by rw[d];exact f,by rw[d];exact g,λq=>by omega,λq=>?_⟩;rw[d,a (l.length-1) (by omega)];refine s _ ?_;rw[List.getLast?_eq_getElem?];have k:l[l.length-1]?=some l[l.length-1]:=List.getElem?_eq_getElem (by omega);rw[k,uor k]
 obtain rfl:i=l.length+1:=by omega
 refine⟨by rw[e];exact f,by rw[e];exact g,λq=>by rw[e,Nat.add_sub_cancel,d];exact Int.le_refl _,λq=>by omega⟩
theorem ujf{l b x}(h:M.Canon (l++[x]).length (lf (l++[x])))(r:x<=b)(m:b<=255):M.Canon (l++[b]).length (lf (l++[b])):=by
 obtain⟨f,e⟩:=h;have j:(l++[x]).length=l.length+1:=by simp
 have k:(l++[b]).length=l.length+1:=by simp
 rw[j]at f e;rw[k];have c:∀y i,i<l.length->lf (l++[y]) i=lf l i:=λy i d=>ujc l y d
 refine⟨f,λi d=>?_⟩;have a:=e i d;by_cases g:i<l.length
 ·unfold M.CanAt at a ⊢;rw[c x i g,c x (i-1) (by omega)]at a;rw[c b i g,c b (i-1) (by omega)];exact a
 obtain rfl:i=l.length:=by omega
 unfold M.CanAt at a ⊢;rw[ujd]at a ⊢;obtain⟨n,o,c3,p⟩:=a;refine⟨by omega,m,λq=>?_,λq=>by omega⟩;have:=c3 q;rw[c x (l.length-1) (by omega)]at this;rw[c b (l.length-1) (by omega)];omega
theorem uhR m:∀b,b<=256->M.Canon (cl m b).length (lf (cl m b))
 |0,_=>⟨by simp[cl],λi g=>absurd g (by simp[cl])⟩
 |b+1,hb=>by
  have a:=uhR m b (by omega);obtain⟨d,e⟩:=ugk m b;rw[cl];split
  ·split
   ·rename_i c;obtain⟨X,f⟩:=List.getLast?_eq_some_iff.1 (d c);rw[f]at a ⊢;rw[List.dropLast_concat];exact ujf a (by omega) (by omega)
   rename_i c;exact uje a (by omega) (by omega) (λx h=>by have:=(e x h).2 c;omega)
  exact a
theorem uos m:M.Canon (rg m 256).length (lf (rg m 256)):=by
 rw[ufl];exact uhR m 256 (Nat.le_refl _)
structure Tx where
 n:Nat
 T:Nat->Int
 byt:∀i,0<=T i/\T i<=255
 le:n<=1048576
def TxA(Q:Nat->Prop)(w:World)(a:Option Addr)(t:Tx):Prop:=Ints Q .u8 w a t.n t.T
theorem TxA.at{Q w a t}(h:TxA Q w a t){i}(c:i<t.n):∃b off,a=some ⟨b,off,none⟩/\Q b/\∀j,j<t.n->w.cell? ⟨b,off+j,none⟩=some (.int .u8 (t.T j)):=by
 rcases h with h|h
 ·omega
 exact h
def udw(c:Int):Option Nat:=if 48<=c/\c<=57 then some (c-48).toNat else if 97<=c/\c<=102 then some (c-87).toNat else if 65<=c/\c<=70 then some (c-55).toNat else none
def uaB(c:Int):Int:=match udw c with|some x=>x|none=>-1
def umV(c:Int):Prop:=c=92\/c=34\/c=91\/c=93\/c=45\/c=94
instance (c:Int):Decidable (umV c):=by unfold umV;infer_instance
def esc(t:Tx)(i:Nat):Int×Nat :=
 if t.n<=i+1\/t.T i≠92 then (0,0)
 else if t.T (i+1)=110 then (10,2)
 else if t.T (i+1)=116 then (9,2)
 else if t.T (i+1)=114 then (13,2)
 else if umV (t.T (i+1)) then (t.T (i+1),2)
 else if t.T (i+1)=120/\i+3<t.n/\0<=uaB (t.T (i+2))/\0<=uaB (t.T (i+3)) then (uaB (t.T (i+2))*16+uaB (t.T (i+3)),4)
 else (0,0)
def chr(t:Tx)(i:Nat)(cls:Bool):Int×Nat :=
 if t.n<=i\/t.T i=10 then (0,0)
 else if t.T i=92 then esc t i
 else if cls=true/\(t.T i=93\/t.T i=45\/t.T i=94) then (0,0)
 else if cls=false/\t.T i=34 then (0,0)
 else (t.T i,1)
def eol(t:Tx):Nat->Nat->Nat
 |0,i=>i
 |f+1,i=>if i<t.n/\t.T i≠10 then eol t f (i+1) else i
def wsP(c:Int):Prop:=c=32\/c=9\/c=13\/c=10
instance (c:Int):Decidable (wsP c):=by unfold wsP;infer_instance
def skp(t:Tx):Nat->Nat->Nat
 |0,i=>i
 |f+1,i=>if i<t.n then (if wsP (t.T i) then skp t f (i+1) else if t.T i=35 then skp t f (eol t (t.n-i) i) else i) else i
def skip(t:Tx)(i:Nat):Nat:=skp t (t.n-i) i
theorem uiw t:∀f i,i<=eol t f i
 |0,i=>Nat.le_refl _
 |f+1,i=>by
  rw[eol];split
  ·exact Nat.le_trans (Nat.le_succ i) (uiw t f (i+1))
  exact Nat.le_refl _
theorem uix t:∀f i,i<=t.n->eol t f i<=t.n
 |0,i,h=>h
 |f+1,i,h=>by
  rw[eol];split
  ·exact uix t f (i+1) (by omega)
  exact h
theorem uhe t:∀f g i,t.n-i<=f->t.n-i<=g->eol t f i=eol t g i
 |f,g,i,h,k=>by
  by_cases a:i<t.n
  ·obtain⟨f,rfl⟩:∃q,f=q+1:=⟨f-1,by omega⟩;obtain⟨g,rfl⟩:∃q,g=q+1:=⟨g-1,by omega⟩;rw[eol,eol,uhe t f g (i+1) (by omega) (by omega)]
  cases f<;>cases g<;>simp[eol,a]
def qq(t:Tx)(i:Nat):Nat:=eol t (t.n-i) i
theorem ue1 t i:qq t i=if i<t.n/\t.T i≠10 then qq t (i+1) else i:=by
 unfold qq;by_cases a:i<t.n
 ·rw[uhe t (t.n-i) ((t.n-(i+1))+1) i (by omega) (by omega),eol]
 rw[show t.n-i=0 by omega,if_neg (λq=>a q.1),eol]
theorem ufR t{i}(h:i<t.n)(a:t.T i=35):i<qq t i/\qq t i<=t.n:=by
 rw[ue1,if_pos ⟨h,by omega⟩];exact⟨uiw t _ (i+1),uix t _ (i+1) (by omega)⟩
theorem ubu t:∀f g i,t.n-i<=f->t.n-i<=g->skp t f i=skp t g i
 |f,g,i,h,k=>by
  by_cases a:i<t.n
  ·obtain⟨f,rfl⟩:∃q,f=q+1:=⟨f-1,by omega⟩;obtain⟨g,rfl⟩:∃q,g=q+1:=⟨g-1,by omega⟩;rw[skp,skp,if_pos a,if_pos a,ubu t f g (i+1) (by omega) (by omega)];by_cases b:t.T i=35
   ·have:=ufR t a b;rw[ubu t f g (eol t (t.n-i) i) (by unfold qq at this;omega) (by unfold qq at this;omega)]
   simp[b]
  cases f<;>cases g<;>simp[skp,a]
theorem uk0 t i:skip t i=if i<t.n then (if wsP (t.T i) then skip t (i+1) else if t.T i=35 then skip t (qq t i) else i) else i:=by
 unfold skip;by_cases a:i<t.n
 ·rw[if_pos a,ubu t (t.n-i) ((t.n-(i+1))+1) i (by omega) (by omega),skp,if_pos a];by_cases b:t.T i=35
  ·have:=ufR t a b;rw[show eol t (t.n-i) i=qq t i from rfl,ubu t (t.n-(i+1)) (t.n-qq t i) (qq t i) (by omega) (by omega)]
  simp[b]
 rw[if_neg a,show t.n-i=0 by omega,skp]
def ueX (k : Nat) : Int:=if k<10 then 48+k else 87+k
def ueY (k : Nat) : Int:=if k<10 then 48+k else 55+k
theorem ukY {c k}(b : k<16)(h : c=ueX k\/c=ueY k) : udw c=some k:=by
  unfold ueX ueY at h
  unfold udw
  by_cases a:k<10
  · simp only [if_pos a,or_self] at h
    rw [if_pos (by omega)]
    congr 1;omega
  · simp only [if_neg a] at h
    rcases h with h | h
    · rw [if_neg (by omega),if_pos (by omega)]
      congr 1;omega
    · rw [if_neg (by omega),if_neg (by omega),if_pos (by omega)]
      congr 1;omega
theorem ufP {c k}(h : udw c=some k) : k<16/\(c=ueX k\/c=ueY k):=by
  unfold udw at h
  unfold ueX ueY
  by_cases a:48<=c/\c<=57
  · rw [if_pos a] at h
    injection h with h
    subst h
    refine ⟨by omega,.inl ?_⟩
    rw [if_pos (by omega)];omega
  rw [if_neg a] at h
  by_cases b:97<=c/\c<=102
  · rw [if_pos b] at h
    injection h with h
    subst h
    refine ⟨by omega,.inl ?_⟩
    rw [if_neg (by omega)];omega
  rw [if_neg b] at h
  by_cases d:65<=c/\c<=70
  · rw [if_pos d] at h
    injection h with h
    subst h
    refine ⟨by omega,.inr ?_⟩
    rw [if_neg (by omega)];omega
  rw [if_neg d] at h
  cases h
theorem ueZ {c k}(h : udw c=some k) : uaB c=k:=by unfold uaB;rw [h]
theorem ue0 {c}(h : udw c=none) : uaB c = -1:=by unfold uaB;rw [h]
theorem ucY c : -1<=uaB c/\uaB c<=15:=by
  cases h:udw c with
  | none=>rw [ue0 h];omega
  | some k=>rw [ueZ h];have:=(ufP h).1;omega
theorem ubt c w(l : 0<=c)(m : c<=255) :
    Calls Tryz.prog 162 #[.int .u8 c] w fun e w'=>e = .returned (.int .i64 (uaB c))/\w'=w:=by
  go_enter Tryz.func162,Tryz.ntmps162
  go_wp2
  go_loopw [5] (fun i wr=>∃ k:Nat,k<=16/\i = .int .i64 k/\wr=w/\∀ x,udw c=some x->k<=x) (fun i _=>16-(intOf i).toNat)
  case atStart=>exact ⟨0,Nat.zero_le _,rfl,rfl,fun x _=>Nat.zero_le _⟩
  case round =>
    obtain ⟨k,n,rfl,rfl,a⟩:=hrel
    have d:=ua a
    by_cases j:k<16
    · have b:Hid (c=ueX k\/c=ueY k->uaB c=k):=fun h=>ueZ (ukY j h)
      have f:Hid (c≠ueX k->c≠ueY k->∀ x,udw c=some x->k+1<=x):=fun h g x a=>by
        have:=d x a
        have:=(ufP a).2
        by_cases e:x=k
        · subst e
          exact absurd ‹_\/_› (fun q=>q.elim h g)
        · omega
      rcases (show k=0\/k=1\/k=2\/k=3\/k=4\/k=5\/k=6\/k=7\/k=8\/k=9\/k=10\/k=11\/k=12\/k=13\/k=14\/k=15 by omega) with rfl | rfl | rfl | rfl | rfl | rfl | rfl | rfl | rfl | rfl | rfl | rfl | rfl | rfl | rfl | rfl
      all_goals (
        go_wp2
        all_goals (first
          | (go_ret
             rename_i h
             exact ⟨uD (b (.inl (h.symm.trans rfl))).symm,rfl⟩)
          | (go_ret
             rename_i h
             exact ⟨uD (b (h.elim (fun q=>.inl ((eq_of_beq q).symm.trans rfl)) (fun q=>.inr ((eq_of_beq q).symm.trans rfl)))).symm,rfl⟩)
          | (rename_i h
             refine ⟨⟨_,?_,rfl,trivial,f (fun q=>?_) (fun q=>?_)⟩,by simp [intOf]⟩
             · decide
             · subst q;exact absurd h.1 (by decide)
             · subst q;exact absurd h.2 (by decide))))
    · obtain rfl:k=16:=by omega
      go_wp2
      go_ret
      refine ⟨uD ?_,rfl⟩
      cases h:udw c with
      | none=>exact (ue0 h).symm
      | some x=>have:=d x h;have:=(ufP h).1;omega
def udr(x y:Int)(w:World)(e:Ending)(w':World):Prop:=e=.returned (.tuple #[.int .i64 x,.int .i64 y])/\∃m,w'=w.drewN m
theorem xJ{x y w}:udr x y w (.returned (.tuple #[.int .i64 x,.int .i64 y])) w:=⟨rfl,0,rfl⟩
theorem TxA.drew{Q t a w}(h:TxA Q w a t)m:TxA Q (w.drewN m) a t:=Ints.later h (below_drewN (Below.refl _ w) m)
theorem ug9{x}(h:0<=x)(a:x<=4000000):IntKind.i64.wrap x=x:=by
 unfold IntKind.wrap;have b:x%(2 ^ IntKind.i64.bits:Int)=x:=Int.emod_eq_of_lt h (Int.lt_of_le_of_lt a (by decide));have c:¬(x ≥ (2 ^ (IntKind.i64.bits-1):Int)):=λq=>absurd (Int.le_trans q a) (by decide)
 simp only[b,c,decide_false,Bool.and_false,if_neg,Bool.false_eq_true,not_false_iff]
theorem ufM Q t a c i w(y:TxA Q w a t)(H:i<=t.n) :
  Calls Tryz.prog 157 #[.slice a t.n c,.int .i64 i] w (udr (esc t i).1 ((esc t i).2:Nat) w):=by
 have I:=t.le;unfold esc;by_cases C:t.n<=i+1
 ·rw[if_pos (.inl C)];have D:(t.n:Int)<=(i:Int)+1:=by omega
  go_enter Tryz.func157,Tryz.ntmps157;go_wp2;go_ret2;exact xJ
 have D:¬(t.n:Int)<=(i:Int)+1:=by omega
 obtain⟨b,off,rfl,J,h⟩:=y.at (i:=i) (by omega);have E:=h i (by omega);have L:=h (i+1) (by omega);have b1:=t.byt (i+1);by_cases g:t.T i=92
 ·rw[if_neg (by omega)];rw[g]at E;have o:=ua h;have m:=ua t.byt;clear h y;generalize t.T (i+1)=x at *;by_cases j:x=110
  ·subst j;go_enter Tryz.func157,Tryz.ntmps157;go_wp2;go_ret2;exact xJ
  by_cases k:x=116
  ·subst k;go_enter Tryz.func157,Tryz.ntmps157;go_wp2;go_ret2;exact xJ
  by_cases l:x=114
  ·subst l;go_enter Tryz.func157,Tryz.ntmps157;go_wp2;go_ret2;exact xJ
  rw[if_neg j,if_neg k,if_neg l];have x1':(x==110)=false:=by simpa using j
  have x2':(x==116)=false:=by simpa using k
  have x3':(x==114)=false:=by simpa using l
  by_cases d:umV x
  ·rw[if_pos d];rcases d with rfl|rfl|rfl|rfl|rfl|rfl;all_goals (
    go_enter Tryz.func157,Tryz.ntmps157;go_wp2;go_ret2;exact xJ)
  rw[if_neg d];obtain⟨y1,y2,y3,y4,F,G⟩:(x==92)=false/\(x==34)=false/\(x==91)=false/\(x==93)=false/\(x==45)=false/\(x==94)=false:=by
   unfold umV at d;simp only[not_or]at d;simpa using d
  clear d;by_cases s:x=120
  ·subst s;by_cases z:i+3<t.n
   ·have x6':(i:Int)+3<(t.n:Int):=(by omega);have X:(i:Int)+2<(t.n:Int):=(by omega);have P:IntKind.i64.wrap ((i:Int)+2)=((i+2:Nat):Int):=(ug9 (by omega) (by omega)).trans (by omega);have R:IntKind.i64.wrap ((i:Int)+3)=((i+3:Nat):Int):=(ug9 (by omega) (by omega)).trans (by omega);have v4:(0:Int)<=(i:Int)+2:=(by omega);have S:(0:Int)<=(i:Int)+3:=(by omega);have U:((i:Int)+2).toNat=i+2:=(by omega);have V:((i:Int)+3).toNat=i+3:=(by omega);have N:=o (i+2) (by omega);have O:=o (i+3) (by omega);have u:=m (i+2);have v:=m (i+3);have f:Hid (∀w,Calls Tryz.prog 162 #[.int .u8 (t.T (i+2))] w λe w'=>e=.returned (.int .i64 (uaB (t.T (i+2))))/\w'=w):=λw=>ubt _ w u.1 u.2
    have r:Hid (∀w,Calls Tryz.prog 162 #[.int .u8 (t.T (i+3))] w λe w'=>e=.returned (.int .i64 (uaB (t.T (i+3))))/\w'=w):=λw=>ubt _ w v.1 v.2
    have Y:=ucY (t.T (i+2));have Z:=ucY (t.T (i+3));generalize uaB (t.T (i+2))=p at *;generalize uaB (t.T (i+3))=q at *;generalize t.T (i+2)=u2 at *;generalize t.T (i+3)=u3 at *;clear o m j k l x1' x2' x3' y1 y2 y3 y4 F G g;by_cases A:0<=p
    ·by_cases B:0<=q
     ·rw[if_pos ⟨rfl,z,A,B⟩];go_enter Tryz.func157,Tryz.ntmps157;go_wp2_with fail;refine(f _).mono ?_;rintro e W ⟨rfl,rfl⟩;go_wp2_with fail;refine(r _).mono ?_;rintro e W ⟨rfl,rfl⟩;go_wp2;go_quiet (first|(go_at_call_of 162 (Value.int IntKind.u8 u2);exact Calls.quiet_of_same (f _))|(go_at_call_of 162 (Value.int IntKind.u8 u3);exact Calls.quiet_of_same (r _)));go_wp2;go_ret2;exact⟨rfl,_,rfl⟩
     rw[if_neg (λq=>B q.2.2.2)];go_enter Tryz.func157,Tryz.ntmps157;go_wp2_with fail;refine(f _).mono ?_;rintro e W ⟨rfl,rfl⟩;go_wp2_with fail;refine(r _).mono ?_;rintro e W ⟨rfl,rfl⟩;go_wp2;go_ret2;exact xJ
    rw[if_neg (λq=>A q.2.2.1)];go_enter Tryz.func157,Tryz.ntmps157;go_wp2_with fail;refine(f _).mono ?_;rintro e W ⟨rfl,rfl⟩;go_wp2;go_ret2;exact xJ
   rw[if_neg (λq=>z q.2.1)];have x6':¬(i:Int)+3<(t.n:Int):=(by omega);go_enter Tryz.func157,Tryz.ntmps157;go_wp2;go_ret2;exact xJ
  rw[if_neg (λq=>s q.1)];have x5':(x==120)=false:=by simpa using s
  go_enter Tryz.func157,Tryz.ntmps157;go_wp2;go_ret2;exact xJ
 rw[if_pos (.inr g)];have c1':(t.T i==92)=false:=by simpa using g
 go_enter Tryz.func157,Tryz.ntmps157;go_wp2;go_ret2;exact xJ
end Go.Proofs.YtimfigongapdnaaGreat
