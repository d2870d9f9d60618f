import Derived.Laws.Bits64b
import Derived.Laws.CopyOwn
import Derived.Test.YtkaipapdlnojiaaGreatWq31
set_option maxHeartbeats 40000000
set_option maxRecDepth 1000000
namespace Go.Proofs.YtkaipapdlnojiaaGreat.Agm
variable {rows:List (List Int)}{I l p q vb vs:List Int}{i j k n:Nat}{x:Rat}{w:World}
theorem pow_pos{x:Rat}(h:0 < x):∀n:Nat,0 < x ^ n
 |0=>by rw[Rat.pow_zero];decide
 |n+1=>by rw[Rat.pow_succ];exact Rat.mul_pos (pow_pos h n) h
theorem qFG{y:Rat}(h:0<=x)(I:x < y):∀n:Nat,1<=n->x ^ n < y ^ n
 |n+1,_=>by
  rw[Rat.pow_succ,Rat.pow_succ];have K:=Rat.mul_nonneg h (show 0<=y ^ n - x ^ n by have:=Q8 h (Rat.le_of_lt I) n;grind);have M:=Rat.mul_pos (pow_pos (show 0 < y by grind) n) (show 0 < y - x by grind);grind
theorem Vn{m:Rat}(I:0<=m)(K:m<=1)(D:Nat):∀j:Nat,m ^ (D+j)<=m ^ D
 |0=>Rat.le_refl
 |j+1=>by
  have M:=Vn I K D j;rw[show D+(j+1)=(D+j)+1 by omega,Rat.pow_succ];have:=Rat.mul_nonneg (uN I (D+j)) (show 0<=1 - m by grind);grind
theorem Zb(x y:Rat):∀n:Nat,(x*y) ^ n=x ^ n*y ^ n
 |0=>by rw[Rat.pow_zero,Rat.pow_zero,Rat.pow_zero];grind
 |n+1=>by rw[Rat.pow_succ,Rat.pow_succ,Rat.pow_succ,Zb x y n];grind
section
variable {α β:Type}
theorem Vj{f g:α->Rat}:∀{l:List α},(∀x∈l,f x<=g x)->sr (l.map f)<=sr (l.map g)
 |[],_=>Rat.le_refl
 |x::l,h=>by
  have K:=h x List.mem_cons_self;have M:=Vj (l:=l) λy I=>h y (mC _ I);show f x+sr (l.map f)<=g x+sr (l.map g);grind
theorem jb(c:Rat)(f:α->Rat):∀l:List α,sr (l.map λx=>c*f x)=c*sr (l.map f)
 |[]=>by show(0:Rat)=c*0;grind
 |x::l=>by
  show c*f x+sr (l.map λx=>c*f x)=c*(f x+sr (l.map f));rw[jb c f l];grind
theorem Vo(f g:α->Rat):∀l:List α,sr (l.map λx=>f x+g x)=sr (l.map f)+sr (l.map g)
 |[]=>by show(0:Rat)=0+0;grind
 |x::l=>by
  show(f x+g x)+sr (l.map λx=>f x+g x)=(f x+sr (l.map f))+(g x+sr (l.map g));rw[Vo f g l];grind
theorem qBS(l:List α):sr (l.map λ_=>(0:Rat))=0:=by
 induction l with
 |nil=>rfl
 |cons x l ih=>show 0+sr (l.map λ_=>(0:Rat))=0;rw[ih];grind
theorem Km(h:α->β->Rat)(F:List α):∀xs:List β,sr (xs.map λx=>sr (F.map λt=>h t x))=sr (F.map λt=>sr (xs.map λx=>h t x))
 |[]=>(qBS F).symm
 |x::xs=>by
  show sr (F.map λt=>h t x)+sr (xs.map λx=>sr (F.map λt=>h t x))=sr (F.map λt=>h t x+sr (xs.map λx=>h t x));rw[Km h F xs,Vo]
theorem Vp{f:α->Rat}:∀{l:List α},(∀x∈l,0<=f x)->∀x∈l,f x<=sr (l.map f)
 |y::l,h,x,I=>by
  have U:=h y List.mem_cons_self;have M:∀z∈l,0<=f z:=λz K=>h z (mC _ K)
  have V:0<=sr (l.map f):=Vi λz K=>by
   obtain⟨u,O,rfl⟩:=List.mem_map.1 K;exact M u O
  show f x<=f y+sr (l.map f);rcases List.mem_cons.1 I with rfl|I
  ·grind
  ·have:=Vp M x I;grind
theorem qBT{f:α->Rat}{l:List α}(h:∀x∈l,0<=f x):0<=sr (l.map f):=Vi λz I=>by
 obtain⟨u,K,rfl⟩:=List.mem_map.1 I;exact h u K
theorem qBU:∀a b:List Rat,pr (a++b)=pr a*pr b
 |[],b=>by show pr b=1*pr b;grind
 |x::a,b=>by show x*pr (a++b)=x*pr a*pr b;rw[qBU a b];grind
theorem qBV:∀a b:List Rat,sr (a++b)=sr a+sr b
 |[],b=>by show sr b=0+sr b;grind
 |x::a,b=>by show x+sr (a++b)=x+sr a+sr b;rw[qBV a b];grind
theorem qBW(x:Rat):∀n:Nat,pr (List.replicate n x)=x ^ n
 |0=>by rw[Rat.pow_zero];rfl
 |n+1=>by rw[List.replicate_succ,Rat.pow_succ,<-qBW x n];show x*_=_*x;grind
theorem qBX(x:Rat):∀n:Nat,sr (List.replicate n x)=(n:Rat)*x
 |0=>by show(0:Rat)=0*x;grind
 |n+1=>by
  rw[List.replicate_succ];show x+sr (List.replicate n x)=_;rw[qBX x n];have:((n+1:Nat):Rat)=(n:Rat)+1:=by push_cast;rfl
  rw[this];grind
def flt(a:α->Nat)(g:α->Rat)(F:List α):List Rat:=F.flatMap λt=>List.replicate (a t) (g t)
theorem qBY(a:α->Nat)(g:α->Rat):∀F:List α,pr (flt a g F)=pr (F.map λt=>g t ^ a t)
 |[]=>rfl
 |t::F=>by
  show pr (List.replicate (a t) (g t)++flt a g F)=g t ^ a t*pr (F.map λt=>g t ^ a t);rw[qBU,qBW,qBY a g F]
theorem qBZ(a:α->Nat)(g:α->Rat):∀F:List α,sr (flt a g F)=sr (F.map λt=>(a t:Rat)*g t)
 |[]=>rfl
 |t::F=>by
  show sr (List.replicate (a t) (g t)++flt a g F)=(a t:Rat)*g t+sr (F.map λt=>(a t:Rat)*g t);rw[qBV,qBX,qBZ a g F]
theorem XU(a:α->Nat)(g:α->Rat):∀F:List α,(flt a g F).length=(F.map a).sum
 |[]=>rfl
 |t::F=>by
  show(List.replicate (a t) (g t)++flt a g F).length=_;rw[lA,List.length_replicate,XU a g F,List.map_cons,List.sum_cons]
theorem Q9(a:α->Nat):∀F:List α,(((F.map a).sum:Nat):Rat)=sr (F.map λt=>(a t:Rat))
 |[]=>rfl
 |t::F=>by
  rw[List.map_cons,List.sum_cons];show _=(a t:Rat)+sr (F.map λt=>(a t:Rat));rw[<-Q9 a F];push_cast;rfl
theorem qD8{F:List α}{xs:List β}{a:α->Nat}{g:α->β->Rat}{b:β->Rat}{P:Rat}{D:Nat}(hD:1<=D)(g0:∀t∈F,∀x∈xs,0<=g t x)(g1:∀t∈F,sr (xs.map (g t))<=1)(hA:D<=(F.map a).sum)
 (b0:∀x∈xs,0<=b x) (P0:0<=P) (hb:∀x∈xs,b x ^ D<=P*pr (F.map λt=>g t x ^ a t)):sr (xs.map b) ^ D<=P:=by
 obtain⟨A,U⟩:∃A,A=(F.map a).sum:=⟨_,rfl⟩;have a4:(0:Rat) < (A:Rat):=by exact_mod_cast (show 0 < A by omega)
 obtain⟨S,hS⟩:∃S,S=sr (xs.map b):=⟨_,rfl⟩;have S0:0<=S:=by rw[hS];exact qBT b0
 obtain⟨m,hm⟩:∃m:β->Rat,m=λx=>(A:Rat)⁻¹*sr (F.map λt=>(a t:Rat)*g t x):=⟨_,rfl⟩;have V:0 < (A:Rat)⁻¹:=Rat.inv_pos.2 a4;have a7:(A:Rat)*(A:Rat)⁻¹=1:=Rat.mul_inv_cancel _ Rr;have ag:∀x∈xs,∀t∈F,0<=(a t:Rat)*g t x:=λx I t O=>Rat.mul_nonneg (ya _) (g0 t O x I);have m0:∀x∈xs,0<=m x:=λx I=>by rw[hm];exact Rat.mul_nonneg (Rat.le_of_lt V) (qBT (ag x I))
 have a2:sr (F.map λt=>(a t:Rat))=(A:Rat):=by rw[U,Q9]
 have m1:∀x∈xs,m x<=1:=λx I=>by
  have K:sr (F.map λt=>(a t:Rat)*g t x)<=sr (F.map λt=>(a t:Rat)):=Vj λt O=>by
   have M:=Rat.le_trans (Vp (g0 t O) x I) (g1 t O);have:=Rat.mul_nonneg (ya (a t)) (show 0<=1 - g t x by grind);grind
  rw[a2]at K;have:=Rat.mul_nonneg (Rat.le_of_lt V) (show 0<=(A:Rat) - sr (F.map λt=>(a t:Rat)*g t x)by grind);rw[hm];show(A:Rat)⁻¹*_<=1;grind
 have a8:sr (xs.map m)<=1:=by
  rw[hm,jb,Km]
  have K:sr (F.map λt=>sr (xs.map λx=>(a t:Rat)*g t x))<=sr (F.map λt=>(a t:Rat)):=Vj λt O=>by
   rw[jb];have:=Rat.mul_nonneg (ya (a t)) (show 0<=1 - sr (xs.map (g t))by have:=g1 t O;grind);grind
  rw[a2]at K;have:=Rat.mul_nonneg (Rat.le_of_lt V) (show 0<=(A:Rat) - sr (F.map λt=>sr (xs.map λx=>(a t:Rat)*g t x))by grind);grind
 have key:∀x∈xs,b x ^ D<=P*m x ^ D:=λx I=>by
  have K:pr (flt a (λt=>g t x) F)<=m x ^ (flt a (λt=>g t x) F).length:=qFF (λy hy=>by
   unfold flt at hy;obtain⟨t,O,M⟩:=List.mem_flatMap.1 hy;rw[(List.mem_replicate.1 M).2];exact g0 t O x I) (m0 x I) (by
   rw[XU,<-U,qBZ,hm];show(A:Rat)*((A:Rat)⁻¹*_)=_;grind)
  rw[qBY,XU,<-U]at K;have M:=Vn (m0 x I) (m1 x I) D (A - D);rw[show D+(A - D)=A by omega]at M;have h3:=Rat.mul_nonneg P0 (show 0<=m x ^ D - pr (F.map λt=>g t x ^ a t)by grind);have h4:=hb x I;grind
 rw[<-hS];rcases Rat.le_total (a:=S ^ D) (b:=P)with h|h
 ·exact h
 ·by_cases he:S ^ D=P
  ·rw[he];exact Rat.le_refl
  ·exfalso;have a3:P < S ^ D:=Rr
   have le:∀x∈xs,b x<=S*m x:=λx I=>by
    rcases Rat.le_total (a:=b x) (b:=S*m x)with K|K
    ·exact K
    ·by_cases M:b x=S*m x
     ·rw[M];exact Rat.le_refl
     ·exfalso;have h3:=qFG (Rat.mul_nonneg S0 (m0 x I)) (show S*m x < b x by grind) D hD;rw[Zb]at h3;have h4:=key x I;have h5:=Rat.mul_nonneg (uN (m0 x I) D) (show 0<=S ^ D - P by grind);grind
   have a6:sr (xs.map λx=>S*m x+(-1)*b x)<=0:=by
    rw[Vo,jb,jb,<-hS];have:=Rat.mul_nonneg S0 (show 0<=1 - sr (xs.map m)by grind);grind
   have hz:∀x∈xs,S*m x=b x:=λx I=>by
    have K:=Vp (f:=λx=>S*m x+(-1)*b x) (λy hy=>by have:=le y hy;grind) x I;have M:=le x I;grind
   have a5:∀x∈xs,b x=0:=λx I=>by
    by_cases K:m x=0
    ·rw[<-hz x I,K];grind
    ·exfalso;have M:0 < m x:=by have:=m0 x I;grind
     have h3:=key x I;rw[<-hz x I,Zb]at h3;have:=Rat.mul_pos (pow_pos M D) (show 0 < S ^ D - P by grind);grind
   have:S=0:=by
    have K:sr (xs.map b)<=sr (xs.map λ_=>(0:Rat)):=Vj λx I=>by rw[a5 x I];exact Rat.le_refl
    rw[qBS,<-hS]at K;grind
   rw[this]at a3
   have h0:(0:Rat) ^ D=0:=by
    obtain⟨d,rfl⟩:∃d,D=d+1:=⟨D - 1,Oo⟩;rw[Rat.pow_succ];grind
   rw[h0]at a3;grind
end
end Go.Proofs.YtkaipapdlnojiaaGreat.Agm
namespace Go.Proofs.YtkaipapdlnojiaaGreat.Agm
variable {rows:List (List Int)}{I l p q vb vs:List Int}{i j k n:Nat}{x:Rat}{w:World}
def prN:List Nat->Nat
 |[]=>1
 |x::l=>x*prN l
section
variable {α β:Type}
theorem Vq:∀l:List Nat,((prN l:Nat):Rat)=pr (l.map λx:Nat=>(x:Rat))
 |[]=>rfl
 |x::l=>by
  show((x*prN l:Nat):Rat)=(x:Rat)*pr (l.map λx:Nat=>(x:Rat));rw[<-Vq l];push_cast;rfl
theorem jq(x:Nat):∀n:Nat,((x ^ n:Nat):Rat)=(x:Rat) ^ n
 |0=>by rw[Nat.pow_zero,Rat.pow_zero];rfl
 |n+1=>by
  rw[Nat.pow_succ,Rat.pow_succ,<-jq x n];push_cast;rfl
theorem YO(b:β->Nat)(xs:List β):(((xs.map b).sum:Nat):Rat)=sr (xs.map λx=>(b x:Rat)):=Q9 b xs
theorem Vr:∀{l:List Nat},0∈l->prN l=0
 |x::l,h=>by
  show x*prN l=0;rcases List.mem_cons.1 h with h|h
  ·rw[<-h,Nat.zero_mul]
  ·rw[Vr h,Nat.mul_zero]
theorem qCj{T:List α}{a:α->Nat}{f:α->Bool}{c C:α->Nat}(O:∀t∈T,0 < a t->0 < C t)(U:∀t∈T,f t=false->c t<=C t):
 pr (T.map λt=>(c t:Rat) ^ a t)<=pr (T.map λt=>(C t:Rat) ^ a t)*pr ((T.filter f).map λt=>((C t:Rat)⁻¹*(c t:Rat)) ^ a t):=by
 induction T with
 |nil=>show(1:Rat)<=1*1;grind
 |cons t T I=>
  have I:=I (λu K=>O u (mC _ K)) (λu K=>U u (mC _ K))
  have n1:0<=pr (T.map λt=>(c t:Rat) ^ a t):=qAQ λx hx=>by
   obtain⟨u,-,rfl⟩:=List.mem_map.1 hx;exact uN (ya _) _
  have n2:0<=(c t:Rat) ^ a t:=uN (ya _) _;cases hf:f t
  ·rw[List.filter_cons_of_neg (by rw[hf];decide)];have M:(c t:Rat) ^ a t<=(C t:Rat) ^ a t:=Q8 (ya _) (by exact_mod_cast U t List.mem_cons_self hf) _;have V:=Q7 n2 n1 M I;show(c t:Rat) ^ a t*pr (T.map λt=>(c t:Rat) ^ a t)<=(C t:Rat) ^ a t*pr (T.map λt=>(C t:Rat) ^ a t)*_;grind
  ·rw[List.filter_cons_of_pos hf]
   have M:(c t:Rat) ^ a t=(C t:Rat) ^ a t*((C t:Rat)⁻¹*(c t:Rat)) ^ a t:=by
    by_cases h0:a t=0
    ·rw[h0,Rat.pow_zero,Rat.pow_zero,Rat.pow_zero];grind
    ·have hp:(0:Rat) < (C t:Rat):=by exact_mod_cast O t List.mem_cons_self Oo
     rw[<-Zb,<-Rat.mul_assoc,Rat.mul_inv_cancel _ Rr,Rat.one_mul]
   have V:=Rat.mul_nonneg n2 (show 0<=pr (T.map λt=>(C t:Rat) ^ a t)*pr ((T.filter f).map λt=>((C t:Rat)⁻¹*(c t:Rat)) ^ a t) - pr (T.map λt=>(c t:Rat) ^ a t)by grind);show(c t:Rat) ^ a t*pr (T.map λt=>(c t:Rat) ^ a t)<=(C t:Rat) ^ a t*pr (T.map λt=>(C t:Rat) ^ a t)*(((C t:Rat)⁻¹*(c t:Rat)) ^ a t*_);generalize pr ((T.filter f).map λt=>((C t:Rat)⁻¹*(c t:Rat)) ^ a t)=G at *;generalize pr (T.map λt=>(C t:Rat) ^ a t)=Q at *;generalize pr (T.map λt=>(c t:Rat) ^ a t)=R at *;generalize ((C t:Rat)⁻¹*(c t:Rat)) ^ a t=g at *;generalize (C t:Rat) ^ a t=Z at *;rw[M]at V ⊢;grind
theorem js{b:β->Nat}:∀{xs:List β},(∀x∈xs,b x=0)->(xs.map b).sum=0
 |[],_=>rfl
 |x::xs,h=>by
  rw[List.map_cons,List.sum_cons,h x List.mem_cons_self,js λy I=>h y (mC _ I)]
theorem qBa{b:β->Nat}:∀{xs:List β} {x:β},x∈xs->b x<=(xs.map b).sum
 |y::xs,x,h=>by
  rw[List.map_cons,List.sum_cons];rcases List.mem_cons.1 h with rfl|h
  ·omega
  ·have:=qBa (b:=b) h;omega
theorem qFH{T:List α}{xs:List β}{a:α->Nat}{f:α->Bool}{c:α->β->Nat}{C:α->Nat}{b:β->Nat}{D:Nat}(hD:1<=D)
 (hf:∀t∈T,f t=true->(xs.map (c t)).sum<=C t) (hg:∀t∈T,f t=false->∀x∈xs,c t x<=C t) (hA:D<=((T.filter f).map a).sum)
 (hb:∀x∈xs,b x ^ D<=prN (T.map λt=>c t x ^ a t)):(xs.map b).sum ^ D<=prN (T.map λt=>C t ^ a t):=by
 have hle:∀t∈T,∀x∈xs,c t x<=C t:=λt I x K=>by
  cases e:f t
  ·exact hg t I e x K
  ·exact bQ (qBa K) (hf t I e)
 by_cases hz:∃t∈T,0 < a t/\C t=0
 ·obtain⟨t,I,M,O⟩:=hz
  have h0:(xs.map b).sum=0:=js λx K=>by
   have h3:c t x=0:=by have:=hle t I x K;omega
   have U:=hb x K;rw[Vr (List.mem_map.2 ⟨t,I,by rw[h3];exact Nat.zero_pow M⟩)]at U;exact(Nat.pow_eq_zero.1 (Nat.le_zero.1 U)).1
  rw[h0,Nat.zero_pow Oo];exact nZ _
 ·have hC:∀t∈T,0 < a t->0 < C t:=λt I h=>Nat.pos_of_ne_zero λe=>hz ⟨t,I,h,e⟩
  have hP:∀c:α->Nat,((prN (T.map λt=>c t ^ a t):Nat):Rat)=pr (T.map λt=>(c t:Rat) ^ a t):=λc=>by
   rw[Vq,List.map_map];congr 1;exact List.map_congr_left λt _=>jq _ _
  have key:=qD8 (F:=T.filter f) (xs:=xs) (a:=a) (g:=λt x=>(C t:Rat)⁻¹*(c t x:Rat)) (b:=λx=>(b x:Rat)) (P:=((prN (T.map λt=>C t ^ a t):Nat):Rat)) hD
   (λt _ x _=>Rat.mul_nonneg (by
    rcases Nat.eq_zero_or_pos (C t)with h|h
    ·have V:((0:Nat):Rat)=0:=rfl;rw[h,V,Rat.inv_zero];exact Rat.le_refl
    ·exact Rat.le_of_lt (Rat.inv_pos.2 (by exact_mod_cast h))) (ya _))
   (λt I=>by
    have M:=hf t (List.mem_filter.1 I).1 (List.mem_filter.1 I).2;show sr (xs.map λx=>(C t:Rat)⁻¹*(c t x:Rat))<=1;rw[jb,<-YO];rcases Nat.eq_zero_or_pos (C t)with h|h
    ·have:(xs.map (c t)).sum=0:=Oo;rw[this];have V:((0:Nat):Rat)=0:=rfl;rw[V];grind
    ·have hp:(0:Rat) < (C t:Rat):=by exact_mod_cast h
     have O:(((xs.map (c t)).sum:Nat):Rat)<=(C t:Rat):=by exact_mod_cast M
     have h3:=Rat.mul_nonneg (Rat.le_of_lt (Rat.inv_pos.2 hp)) (show 0<=(C t:Rat) - (((xs.map (c t)).sum:Nat):Rat)by grind);have U:(C t:Rat)*(C t:Rat)⁻¹=1:=Rat.mul_inv_cancel _ Rr;grind) hA (λx _=>ya _) (ya _) (λx K=>by
    have M:=hb x K;have O:((b x ^ D:Nat):Rat)<=((prN (T.map λt=>c t x ^ a t):Nat):Rat):=by exact_mod_cast M
    rw[jq,hP λt=>c t x]at O;rw[hP C];exact Rat.le_trans O (qCj hC λt I e=>hg t I e x K))
  rw[<-YO,<-jq]at key;exact_mod_cast key
end
end Go.Proofs.YtkaipapdlnojiaaGreat.Agm
namespace Go.Proofs.YtkaipapdlnojiaaGreat
open Go.RowKit
variable {rows:List (List Int)}{I l p q vb vs:List Int}{i j k n:Nat}{x:Rat}{w:World}
theorem Vy(w:World)(v:Value)(l:List Int)(h:IS w v l)(hl:l.length<=100000):
 Cl 150 #[v] w λe w'=>∃v',e=.returned v'/\w'.ownsRow w.heap.size 3 1 v' l.length (l.map (Value.int .i64))/\Bl w w':=by
 obtain⟨i0,hi,a4,a5,a6⟩:=info_parts Tryz.infoInt;obtain⟨a,cap,rfl,hc⟩:=h;cases a with
 |none=>
  have V:l.length=0:=by
   rcases hc with V|⟨b,o,e,-⟩
   ·exact V
   ·cases e
  have e0:l=[]:=List.eq_nil_of_length_eq_zero V;subst e0;have hq:∀w:World,(binOp .eql 25 (.slice none 0 cap) (.slice none 0 0)).run Tryz.prog w=.ok (.bool true) w:=λw=>Lib.run_eql_slice_nil w 25 3 none 0 cap 0 0 Tryz.underlying25;go_enter Tryz.func150,Tryz.ntmps150
  go_wp2;go_ret;exact⟨_,rfl,bG _ _ _ _,bM _ _⟩
 |some ad=>
  have hq:∀w:World,(binOp .eql 25 (.slice (some ad) l.length cap) (.slice none 0 0)).run Tryz.prog w=.ok (.bool false) w:=λw=>Lib.run_eql_slice_nil w 25 3 (some ad) l.length cap 0 0 Tryz.underlying25;have M:(w.alloc (.cells #[] 3)).ownsRow w.heap.size 3 1 (.slice (some ⟨w.heap.size,0,none⟩) 0 0) 0 []:=oM w #[] 0 (bK _) Dd rfl;have a2:Bl w (w.alloc (.cells #[] 3)):=(bM _ _).alloc (bK _) _;by_cases V:l.length=0
  ·have e0:l=[]:=List.eq_nil_of_length_eq_zero V;subst e0;have b0:∀w:World,(binOp .eql 25 (.slice (some ad) 0 cap) (.slice none 0 0)).run Tryz.prog w=.ok (.bool false) w:=hq;clear hq hc V;go_enter Tryz.func150,Tryz.ntmps150
   go_wp2_with (first|(at_builtin;refine wpList_append_own _ rfl _ _ 25 rfl w.heap.size 3 i0 (.int .i64 0) 1 8 Tryz.underlying25 hi a4 a5 a6 rfl Dd (.slice (some ⟨w.heap.size,0,none⟩) 0 0) 0 [] rfl M ad 0 cap [] rfl rfl (λj u U=>by simp at U) (λu U=>by cases U) (by unfold maxLen;omega) Oo Ss ?_;intro v3 w3 K I _)|fail)
   go_ret;exact⟨_,rfl,K,a2.grown I Ss (λk hk=>(M.lt k hk).1)⟩
  ·obtain⟨b,o,e,a3⟩:∃b o,some ad=some (⟨b,o,none⟩:Addr)/\∀j,j < l.length->w.cell? ⟨b,o+j,none⟩=some (.int .i64 (l.getD j 0)):=by
    rcases hc with h1|h1
    ·omega
    ·exact h1
   obtain rfl:=Option.some.inj e;clear hc e
   have O:∀j u,(l.map (Value.int .i64))[j]?=some u->(w.alloc (.cells #[] 3)).cell? ((⟨b,o,none⟩:Addr).add j)=some u:=λj u U=>by
    have hj:j < l.length:=by
     rcases Nat.lt_or_ge j l.length with h|h
     ·exact h
     ·rw[gN (by simpa using h)]at U;cases U
    rw[show((⟨b,o,none⟩:Addr).add j)=⟨b,o+j,none⟩by unfold Addr.add;split <;> simp_all,a2.cell (p:=⟨b,o+j,none⟩) (bL w _ (a3 j hj)),a3 j hj,<-U,bN,gD,bC hj];rfl
   have a7:=hid O;clear O a3;obtain⟨n,hn⟩:∃n,n=l.length:=⟨_,rfl⟩;have HN:=hid hn;rw[<-hn]at hq hl V ⊢;clear hn;go_enter Tryz.func150,Tryz.ntmps150
   go_wp2_with (first|(at_builtin;refine wpList_append_lies _ rfl _ _ 25 rfl w.heap.size 3 i0 (.int .i64 0) 1 8 Tryz.underlying25 hi a4 a5 a6 rfl Dd (.slice (some ⟨w.heap.size,0,none⟩) 0 0) 0 [] rfl M ⟨b,o,none⟩ n cap (l.map (Value.int .i64)) rfl (by rw[lM,HN.out];omega) a7.out (λu U=>by obtain⟨x,_,rfl⟩:=List.mem_map.1 U;rfl) Oo (by unfold maxLen;omega) Oo Ss _ rfl ?_;intro g3 cp3 w3 K I a8 a9)|fail)
   go_ret;refine⟨_,rfl,?_,a2.grown I Ss (λk hk=>(M.lt k hk).1)⟩;simpa using K
theorem jG{B s:Nat}{e:TypeId}{v:Value}{xs:List Value}(h:w.ownsRow B e s v n xs):∃a cap,v=.slice a n cap:=by
 rcases h.2 with ⟨rfl,I⟩|⟨g,cap,cur,rfl,_⟩
 ·exact⟨none,0,by rw[I]⟩
 ·exact⟨_,cap,rfl⟩
structure TX(W:World)(p:Nat)(v0 v1 v2:Value):Prop where
 blk:W.heap[p]?=some (.cells #[v0,v1,v2] 34 (0,0))
section
variable {W W':World} {p:Nat} {v0 v1 v2:Value}
theorem TX.lt(h:TX W p v0 v1 v2):p < W.heap.size:=by
 rcases Nat.lt_or_ge p W.heap.size with I|I
 ·exact I
 ·have:=h.blk;rw[Array.getElem?_eq_none I]at this;cases this
theorem TX.below(h:TX W p v0 v1 v2)(hb:Bl W W'):TX W' p v0 v1 v2:=⟨(hb.block p h.lt).trans h.blk⟩
theorem TX.c0(h:TX W p v0 v1 v2):W.cell? ⟨p,0,none⟩=some v0:=by rw[cell_of_row _ _ _ _ _ _ h.blk];rfl
theorem TX.c1(h:TX W p v0 v1 v2):W.cell? ⟨p,1,none⟩=some v1:=by rw[cell_of_row _ _ _ _ _ _ h.blk];rfl
theorem TX.c2(h:TX W p v0 v1 v2):W.cell? ⟨p,2,none⟩=some v2:=by rw[cell_of_row _ _ _ _ _ _ h.blk];rfl
theorem TX.made(W:World)(v0 v1 v2:Value):TX (W.alloc (.cells #[v0,v1,v2] 34)) W.heap.size v0 v1 v2:=⟨heap_alloc_new _ _⟩
end
theorem qD4:∀{a b:List Int},a.Pairwise (·< ·)->b.Pairwise (·< ·)->(∀x,x∈a↔x∈b)->a=b
 |[],[],_,_,_=>rfl
 |[],y::b,_,_,h=>by have:=(h y).2 (List.mem_cons_self ..);cases this
 |x::a,[],_,_,h=>by have:=(h x).1 (List.mem_cons_self ..);cases this
 |x::a,y::b,ha,hb,h=>by
  rw[List.pairwise_cons]at ha hb
  have K:x=y:=by
   rcases List.mem_cons.1 ((h x).1 (List.mem_cons_self ..))with e|e
   ·exact e
   ·rcases List.mem_cons.1 ((h y).2 (List.mem_cons_self ..))with M|M
    ·exact M.symm
    ·have O:=hb.1 x e;have U:=ha.1 y M;omega
  subst K;rw[qD4 (a:=a) (b:=b) ha.2 hb.2 λz=>?_];constructor
  ·intro I;rcases List.mem_cons.1 ((h z).1 (mC _ I))with e|e
   ·subst e;have:=ha.1 _ I;omega
   ·exact e
  ·intro I;rcases List.mem_cons.1 ((h z).2 (mC _ I))with e|e
   ·subst e;have:=hb.1 _ I;omega
   ·exact e
theorem U9:∀(vs r:List Int) (p:Nat),vs.Pairwise (·< ·)->p < vs.length->vlF vs r (vs.getD p 0)=r.getD p 0
 |[],_,p,_,h=>by simp at h
 |x::vs,r,0,_,_=>by simp[vlF]
 |x::vs,r,p+1,h,hp=>by
  rw[List.pairwise_cons]at h;simp only[List.length_cons]at hp;have I:vs.getD p 0∈vs:=by rw[gD,bC Oo];exact gM _
  have K:=h.1 _ I;show vlF (x::vs) r (vs.getD p 0)=_;rw[vlF,if_neg Oo,U9 vs (r.drop 1) p h.2 Oo,vm,Nat.add_comm]
theorem J7(vs vars:List Int):(plc (λi=>decide (vs.getD i 0∈vars)) vs.length).map (λp=>vs.getD p.toNat 0)=vs.filter (λx=>decide (x∈vars)):=by
 unfold plc;rw[List.map_map]
 have e:vs=(List.range vs.length).map (λi=>vs.getD i 0):=by
  refine List.ext_getElem? λi=>?_;by_cases h:i < vs.length
  ·rw[bN,List.getElem?_range h,bC h,Option.map_some,gD,bC h];rfl
  ·rw[gN Oo,gN (by simp;omega)]
 have I:vs.filter (λx=>decide (x∈vars))=((List.range vs.length).filter λi=>decide (vs.getD i 0∈vars)).map λi=>vs.getD i 0:=by
  conv=>lhs;rw[e]
  rw[List.filter_map];rfl
 rw[I];rfl
theorem qDa{vars r:List Int}(I:vs.Pairwise (·< ·))(M:vars.Pairwise (·< ·))(hs:∀x∈vars,x∈vs):atP r (plc (λi=>decide (vs.getD i 0∈vars)) vs.length)=qp vs vars r:=by
 have hv:vs.filter (λx=>decide (x∈vars))=vars:=qD4 (I.filter _) M λx=>by
  rw[List.mem_filter,dE];exact⟨λh=>h.2,λh=>⟨hs x h,h⟩⟩
 unfold qp atP;conv=>rhs;rw[<-hv,<-J7]
 rw[List.map_map];refine List.map_congr_left λp hp=>?_;unfold plc at hp;rw[List.mem_map]at hp;obtain⟨j,K,e⟩:=hp;rw[List.mem_filter,List.mem_range]at K;simp only[Int.ofNat_eq_natCast]at e;subst e;simp only[Function.comp_apply,Int.toNat_natCast];rw[U9 vs r j I K.1]
def jU(a b:List Int):Bool:=a.all λx=>decide (x∈b)
theorem Qj:∀(n:Nat) {a b:List Int},cmpL a b<=0->cmpL (a.take n) (b.take n)<=0
 |0,a,b,_=>by simp[cmpL]
 |n+1,[],[],_=>by simp[cmpL]
 |n+1,[],y::b,_=>by simp[cmpL]
 |n+1,x::a,[],h=>by simp[cmpL]at h
 |n+1,x::a,y::b,h=>by
  simp only[List.take_succ_cons];unfold cmpL at h ⊢;by_cases I:x < y
  ·rw[if_pos I];omega
  ·rw[if_neg I]at h ⊢;by_cases K:y < x
   ·rw[if_pos K]at h;omega
   ·rw[if_neg K]at h ⊢;exact Qj n h
theorem qEv{a b c:List Int}(K:cmpL a b<=0)(I:cmpL b c < 0):cmpL a c < 0:=by
 rcases Int.lt_or_eq_of_le K with h|h
 ·exact zY h I
 ·rw[cmpL_eq h];exact I
theorem qBG(h:SL rows)(M:i<=j)(I:j < rows.length):cmpL (rows.getD i []) (rows.getD j [])<=0:=by
 rcases Nat.lt_or_ge i j with K|K
 ·have:=List.pairwise_iff_getElem.1 h i j Oo I K;rw[gD,bC Oo,gD,bC I];exact Int.le_of_lt this
 ·rw[show i=j by omega,zp];exact Int.le_refl _
structure Sk(rows:List (List Int))(q:List Int)(k:Nat):Prop where
 le:k<=rows.length
 lo:∀j,j < k->cmpL ((rows.getD j []).take q.length) q < 0
 hi:∀j,k<=j->j < rows.length->¬cmpL ((rows.getD j []).take q.length) q < 0
def yU(rows:List (List Int))(q:List Int):Bool:=rows.any λr=>decide (r.take q.length=q)
theorem qAJ(h:SL rows)(I:i<=j)(K:j < rows.length)(M:cmpL ((rows.getD j []).take q.length) q < 0):cmpL ((rows.getD i []).take q.length) q < 0:=
 qEv (Qj _ (qBG h I K)) M
theorem Sk.beg(hS:SL rows)(h:Sk rows q k):yU rows q=(decide (k < rows.length)&&decide (cmpL ((rows.getD k []).take q.length) q=0)):=by
 unfold yU;by_cases I:k < rows.length/\cmpL ((rows.getD k []).take q.length) q=0
 ·rw[decide_eq_true I.1,decide_eq_true I.2];refine List.any_eq_true.2 ⟨rows[k]'I.1,gM _,decide_eq_true ?_⟩;have:=cmpL_eq I.2;rw[gD,bC I.1]at this;exact this
 ·have e:(decide (k < rows.length)&&decide (cmpL ((rows.getD k []).take q.length) q=0))=false:=by
   rcases Classical.em (k < rows.length)with K|K
   ·rw[decide_eq_false (p:=cmpL _ q=0) (λh2=>I ⟨K,h2⟩)];simp
   ·rw[decide_eq_false K];rfl
  rw[e,List.any_eq_false];intro r hr M;obtain⟨j,U,ej⟩:=gO hr;have M:=of_decide_eq_true M;have V:(rows.getD j []).take q.length=q:=by rw[gD,bC U,<-M,<-ej];simp
  have O:k<=j:=by
   rcases Nat.lt_or_ge j k with K|K
   ·have:=h.lo j K;rw[V,zp]at this;omega
   ·exact K
  have h3:=Qj q.length (qBG hS O U);rw[V]at h3;have h4:=h.hi k (bK _) Oo;exact I ⟨Oo,Oo⟩
def shr(va vb:List Int):List Int:=va.filter λx=>decide (x∈vb)
theorem qFv(h:I.Pairwise (·< ·)):(shr I vb).Pairwise (·< ·):=h.filter _
theorem Yu{x:Int}(h:x∈shr I vb):x∈vb:=of_decide_eq_true (List.mem_filter.1 h).2
theorem X9(I vb:List Int):(shr I vb).length<=I.length:=List.length_filter_le _ _
def kp(p:Nat->Bool)(n:Nat):List Nat:=(List.range n).filter p
theorem JH{p:Nat->Bool}(h:p n=true):kp p (n+1)=kp p n++[n]:=by
 unfold kp;rw[List.range_succ,List.filter_append];simp[h]
theorem YA{p:Nat->Bool}(h:p n=false):kp p (n+1)=kp p n:=by
 unfold kp;rw[List.range_succ,List.filter_append];simp[h]
theorem qFw(p:Nat->Bool)(n:Nat):(kp p n).length<=n:=bQ (List.length_filter_le _ _) Ss
def xt(nxt:List Int->List Int)(p:List Int):Nat->List (List Int)
 |0=>[p]
 |j+1=>(xt nxt p j).flatMap λq=>(nxt q).map λv=>q++[v]
def zE(nxt:List Int->List Int):Nat->List Int->List (List Int)
 |0,p=>[p]
 |m+1,p=>p::(nxt p).flatMap λv=>zE nxt m (p++[v])
theorem ZK{α β γ:Type}(l:List α)(f:α->List β)(g:β->List γ):(l.flatMap f).flatMap g=l.flatMap λa=>(f a).flatMap g:=by
 induction l with
 |nil=>rfl
 |cons a l ih=>rw[List.flatMap_cons,List.flatMap_append,ih,List.flatMap_cons]
theorem QG(nxt:List Int->List Int)(p:List Int):∀j,xt nxt p (j+1)=(nxt p).flatMap λv=>xt nxt (p++[v]) j
 |0=>by
  show([p].flatMap λq=>(nxt q).map λv=>q++[v])=(nxt p).flatMap λv=>[p++[v]];rw[List.flatMap_singleton];induction nxt p with
  |nil=>rfl
  |cons a l ih=>rw[List.map_cons,List.flatMap_cons,ih];rfl
 |j+1=>by
  show(xt nxt p (j+1)).flatMap _=_;rw[QG nxt p j,ZK];rfl
theorem Uj(nxt:List Int->List Int)(p:List Int):∀j,∀q∈xt nxt p j,q.length=p.length+j
 |0,q,h=>by simp[xt]at h;rw[h];rfl
 |j+1,q,h=>by
  simp only[xt,List.mem_flatMap,List.mem_map]at h;obtain⟨r,hr,v,-,rfl⟩:=h;rw[lA,Uj nxt p j r hr];rfl
theorem jF{α β:Type}(l:List α)(f:α->List β)(q:β->Bool):(l.flatMap f).filter q=l.flatMap λa=>(f a).filter q:=by
 induction l with
 |nil=>rfl
 |cons a l ih=>rw[List.flatMap_cons,List.filter_append,ih,List.flatMap_cons]
theorem QH(nxt:List Int->List Int):∀(m:Nat) (p q:List Int),q∈zE nxt m p->p.length<=q.length/\q.length<=p.length+m
 |0,p,q,h=>by simp[zE]at h;rw[h];omega
 |m+1,p,q,h=>by
  simp only[zE,List.mem_cons,List.mem_flatMap]at h;rcases h with rfl|⟨v,-,hq⟩
  ·omega
  ·have:=QH nxt m (p++[v]) q hq;rw[lA,lS]at this;omega
theorem Uk(nxt:List Int->List Int):∀(m:Nat) (p:List Int) (j:Nat),j<=m->(zE nxt m p).filter (λq=>decide (q.length=p.length+j))=xt nxt p j
 |0,p,j,hj=>by
  obtain rfl:j=0:=Oo;simp[zE,xt]
 |m+1,p,0,_=>by
  show((p::(nxt p).flatMap λv=>zE nxt m (p++[v])).filter _)=[p];rw[List.filter_cons,if_pos Ss,jF]
  have h:∀l:List Int,(l.flatMap λv=>(zE nxt m (p++[v])).filter λq=>decide (q.length=p.length+0))=[]:=λl=>by
   rw[List.flatMap_eq_nil_iff];intro v _;rw[List.filter_eq_nil_iff];intro q hq;have:=(QH nxt m (p++[v]) q hq).1;rw[lA,lS]at this;simp only[decide_eq_true_eq];omega
  rw[h]
 |m+1,p,j+1,hj=>by
  show((p::(nxt p).flatMap λv=>zE nxt m (p++[v])).filter _)=_;rw[List.filter_cons,if_neg Ss,jF,QG];congr 1;funext v;have:=Uk nxt m (p++[v]) j Oo;rw[lA,lS]at this;rw[<-this];congr 1;funext q;congr 1;rw[eq_iff_iff];omega
def qh(ps:List (List Int))(n:Nat):Nat:=(ps.filter λq=>decide (q.length=n)).length
theorem QI(ps:List (List Int))(p:List Int)(n:Nat):qh (ps++[p]) n=qh ps n+if p.length=n then 1 else 0:=by
 unfold qh;rw[List.filter_append,lA];by_cases h:p.length=n <;> simp[h]
theorem qEc(ps qs:List (List Int))(n:Nat):qh ps n<=qh (ps++qs) n:=by
 unfold qh;rw[List.filter_append,lA];omega
theorem Z9(ps:List (List Int)):∀k,(∀q∈ps,q.length<=k)->(ps.filter λq=>decide (0 < q.length)).length=((List.range k).map λj=>qh ps (j+1)).sum:=by
 induction ps with
 |nil=>
  intro k _
  have h:∀k:Nat,((List.range k).map λj=>qh [] (j+1)).sum=0:=λk=>by
   induction k with
   |zero=>rfl
   |succ k ih=>rw[List.range_succ,mA,List.sum_append,ih];rfl
  rw[h];rfl
 |cons p ps ih=>
  intro k h;have K:=ih k λq hq=>h q (mC _ hq);have hp:=h p List.mem_cons_self
  have I:∀n,qh (p::ps) n=qh ps n+if p.length=n then 1 else 0:=λn=>by
   unfold qh;rw[List.filter_cons];by_cases e:p.length=n <;> simp[e]
  have hs:∀k,p.length<=k->((List.range k).map λj=>qh (p::ps) (j+1)).sum=((List.range k).map λj=>qh ps (j+1)).sum+if 0 < p.length then 1 else 0:=λk=>by
   induction k with
   |zero=>
    intro V;have M:p.length=0:=Oo;rw[M];rfl
   |succ k ihk=>
    intro hk;rw[List.range_succ,mA,List.sum_append,mA,List.sum_append];simp only[List.map_cons,List.map_nil,List.sum_cons,List.sum_nil,Nat.add_zero];rw[I];by_cases e:p.length=k+1
    ·have O:((List.range k).map λj=>qh (p::ps) (j+1))=(List.range k).map λj=>qh ps (j+1):=List.map_congr_left λj U=>by
      rw[I,if_neg (by have:=List.mem_range.1 U;omega)];rfl
     rw[O,if_pos e,if_pos Oo];omega
    ·rw[ihk Oo,if_neg e];omega
  rw[hs k hp,<-K,List.filter_cons];by_cases e:0 < p.length
  ·rw[if_pos (by simpa using e),if_pos e,List.length_cons]
  ·rw[if_neg (by simpa using e),if_neg e];rfl
structure Sd where
 H:Nat->Bool
 rs:List (List Int)
 N:List Int->List Int
def Sd.D(s:Sd)(p:List Int):Prop:=p=[]∨∃r∈s.rs,p <+:r
structure Sd.Ok(s:Sd):Prop where
 tm:TM s.rs s.D s.N
def prt(H:Nat->Bool)(p:List Int):List Int:=((List.range p.length).filter H).map λi=>p.getD i 0
theorem y9(H:Nat->Bool)(p:List Int)(v:Int):prt H (p++[v])=prt H p++(if H p.length then [v] else []):=by
 unfold prt;rw[lA,lS,List.range_succ,List.filter_append,mA];congr 1
 ·refine List.map_congr_left λi hi=>?_;have I:=List.mem_range.1 ((List.mem_filter.1 hi).1);rw[gD,aL I,<-gD]
 ·by_cases h:H p.length
  ·rw[if_pos h,List.filter_cons,if_pos h];simp[List.getD_eq_getElem?_getD]
  ·rw[if_neg h,List.filter_cons,if_neg h];rfl
def Hld(sds:List Sd)(p:List Int):Prop:=∀s∈sds,s.D (prt s.H p)
def qDH(sds:List Sd)(p:List Int)(v:Int):Bool:=sds.all λs=>!s.H p.length||decide (v∈s.N (prt s.H p))
theorem kL(I:List Sd)(p:List Int)(v:Int):qDH I p v=true↔∀s∈I,s.H p.length=true->v∈s.N (prt s.H p):=by
 unfold qDH;rw[bY];refine⟨λh s hs K=>?_,λh s hs=>?_⟩
 ·have:=h s hs;rw[K]at this;simpa using this
 ·cases K:s.H p.length
  ·rfl
  ·simpa using h s hs K
theorem uc:∀{a b:List Int},a.Pairwise (·< ·)->b.Pairwise (·< ·)->(∀v,v∈a↔v∈b)->a=b
 |[],[],_,_,_=>rfl
 |[],y::b,_,_,h=>by have:=(h y).2 List.mem_cons_self;cases this
 |x::a,[],_,_,h=>by have:=(h x).1 List.mem_cons_self;cases this
 |x::a,y::b,ha,hb,h=>by
  rw[List.pairwise_cons]at ha hb
  have M:x=y:=by
   have I:=(h x).1 List.mem_cons_self;have K:=(h y).2 List.mem_cons_self;rw[List.mem_cons]at I K;rcases I with I|I
   ·exact I
   ·rcases K with K|K
    ·exact K.symm
    ·have:=hb.1 x I;have:=ha.1 y K;omega
  subst M;rw[uc ha.2 hb.2 λv=>?_];have:=h v;rw[List.mem_cons,List.mem_cons]at this;constructor
  ·intro hv;rcases this.1 (Or.inr hv)with rfl|I
   ·have:=ha.1 v hv;omega
   ·exact I
  ·intro hv;rcases this.2 (Or.inr hv)with rfl|I
   ·have:=hb.1 v hv;omega
   ·exact I
def vO(sds:List Sd)(g:Sd)(p:List Int):List Int:=(g.N (prt g.H p)).filter λv=>qDH sds p v
theorem qAs{I:List Sd}(K:∀s∈I,s.Ok){g f:Sd}(M:g∈I)(O:f∈I)(hp:Hld I p)(U:g.H p.length=true)(V:f.H p.length=true):vO I g p=vO I f p:=by
 refine uc ((((K g M).tm.asc _ (hp g M))).filter _) ((((K f O).tm.asc _ (hp f O))).filter _) λv=>?_;unfold vO;rw[List.mem_filter,List.mem_filter];constructor
 ·rintro⟨-,h⟩;exact⟨(kL I p v).1 h f O V,h⟩
 ·rintro⟨-,h⟩;exact⟨(kL I p v).1 h g M U,h⟩
def xA(sds:List Sd)(p:List Int):List Int:=
 match sds.find? λs=>s.H p.length with
 |some f=>vO sds f p
 |none=>[]
theorem Xn{I:List Sd}(K:∀s∈I,s.Ok){g:Sd}(M:g∈I)(hp:Hld I p)(O:g.H p.length=true):xA I p=vO I g p:=by
 unfold xA;cases hf:I.find? (λs=>s.H p.length)with
 |none=>
  rw[List.find?_eq_none]at hf;exact absurd O (hf g M)
 |some f=>
  exact qAs K (List.mem_of_find?_eq_some hf) M hp (by have:=List.find?_some hf;exact this) O
theorem Ul{I:List Sd}(K:∀s∈I,s.Ok)(hp:Hld I p):(xA I p).Pairwise (·< ·):=by
 unfold xA;cases hf:I.find? (λs=>s.H p.length)with
 |none=>exact List.Pairwise.nil
 |some f=>exact((K f (List.mem_of_find?_eq_some hf)).tm.asc _ (hp f (List.mem_of_find?_eq_some hf))).filter _
theorem Hld.snoc{I:List Sd}(K:∀s∈I,s.Ok)(hp:Hld I p){v:Int}(hv:v∈xA I p):Hld I (p++[v]):=λs hs=>by
 rw[y9];cases hH:s.H p.length
 ·rw[if_neg Dd,List.append_nil];exact hp s hs
 ·rw[if_pos rfl];rw[Xn K hs hp hH]at hv;unfold vO at hv;exact((K s hs).tm.mem _ (hp s hs) v).1 ((List.mem_filter.1 hv).1)
theorem Um{I:List Sd}(K:∀s∈I,s.Ok){p:List Int}(hp:Hld I p):∀j,∀q∈xt (xA I) p j,Hld I q
 |0,q,h=>by simp[xt]at h;rw[h];exact hp
 |j+1,q,h=>by
  simp only[xt,List.mem_flatMap,List.mem_map]at h;obtain⟨r,hr,v,hv,rfl⟩:=h;exact(Um K hp j r hr).snoc K hv
def vlA(R:List (List Int))(q:List Int)(i:Nat):Int:=(R.getD i []).getD q.length 0
def QJ(R:List (List Int))(q:List Int)(k j:Nat):Bool:=decide (j=0)||!decide (vlA R q (k+j - 1)=vlA R q (k+j))
def VA(R:List (List Int))(q:List Int)(k n:Nat):List Int:=(kp (QJ R q k) n).map λj=>vlA R q (k+j)
structure Run(R:List (List Int))(q:List Int)(k n:Nat):Prop where
 le:k+n<=R.length
 beg:∀j,j < n->(R.getD (k+j) []).take q.length=q
section
variable {R:List (List Int)} {q:List Int} {k n:Nat}
theorem Xo(hl:∀r∈R,q.length < r.length)(hi:i < R.length)(h:(R.getD i []).take q.length=q):q++[vlA R q i] <+:R.getD i []:=by
 have I:R.getD i []∈R:=by rw[gD,bC hi];exact gM hi
 have K:=hl _ I;have e:q++[vlA R q i]=(R.getD i []).take (q.length+1):=by rw[zA K,h];rfl
 rw[e];exact List.take_prefix _ _
theorem qB6(K:SL R)(hl:∀r∈R,q.length < r.length)(M:i<=j)(I:j < R.length)(O:(R.getD i []).take q.length=q)(U:(R.getD j []).take q.length=q):vlA R q i<=vlA R q j:=by
 by_cases e:i=j
 ·subst e;exact Int.le_refl _
 ·refine qCd (Xo hl Oo O) (Xo hl I U) ?_;rw[gD,bC (show i < R.length by omega),gD,bC I];exact List.pairwise_iff_getElem.1 K i j Oo I Oo
theorem Un(x:Int):∀n,x∈VA R q k n↔∃j,j < n/\vlA R q (k+j)=x
 |0=>by unfold VA kp;simp
 |n+1=>by
  have M:=Un x n;cases hb:QJ R q k n
  ·have e:VA R q k (n+1)=VA R q k n:=by unfold VA;rw[YA hb]
   rw[e,M];constructor
   ·rintro⟨j,I,h⟩;exact⟨j,Oo,h⟩
   ·rintro⟨j,I,h⟩;by_cases K:j=n
    ·subst K;unfold QJ at hb;rw[Bool.or_eq_false_iff,decide_eq_false_iff_not,Bool.not_eq_false',dE]at hb;exact⟨j - 1,Oo,by rw[show k+(j - 1)=k+j - 1 by omega,hb.2];exact h⟩
    ·exact⟨j,Oo,h⟩
  ·have e:VA R q k (n+1)=VA R q k n++[vlA R q (k+n)]:=by unfold VA;rw[JH hb,mA];rfl
   rw[e,List.mem_append,M,List.mem_singleton];constructor
   ·rintro (⟨j,I,h⟩|h)
    ·exact⟨j,Oo,h⟩
    ·exact⟨n,Oo,h.symm⟩
   ·rintro⟨j,I,h⟩;by_cases K:j=n
    ·subst K;exact Or.inr h.symm
    ·exact Or.inl ⟨j,Oo,h⟩
theorem qB7(K:SL R)(hl:∀r∈R,q.length < r.length):∀n,Run R q k n->(VA R q k n).Pairwise (·< ·)
 |0,_=>by unfold VA kp;simp
 |n+1,h=>by
  have M:=qB7 K hl n ⟨by have:=h.le;omega,λj O=>h.beg j Oo⟩;cases hb:QJ R q k n
  ·have e:VA R q k (n+1)=VA R q k n:=by unfold VA;rw[YA hb]
   rw[e];exact M
  ·have e:VA R q k (n+1)=VA R q k n++[vlA R q (k+n)]:=by unfold VA;rw[JH hb,mA];rfl
   rw[e,List.pairwise_append];refine⟨M,List.pairwise_singleton _ _,λa U b I=>?_⟩;rw[List.mem_singleton]at I;subst I;obtain⟨j,O,rfl⟩:=(Un a n).1 U;have hle:=h.le;unfold QJ at hb;rw[Bool.or_eq_true,dE,Bool.not_eq_true',decide_eq_false_iff_not]at hb;rcases hb with hb|hb
   ·omega
   ·have V:=qB6 K hl (i:=k+j) (j:=k+n - 1) Oo Oo (h.beg j Oo) (by have:=h.beg (n - 1) Oo;rw[show k+(n - 1)=k+n - 1 by omega]at this;exact this);have h2:=qB6 K hl (i:=k+n - 1) (j:=k+n) Oo Oo (by have:=h.beg (n - 1) Oo;rw[show k+(n - 1)=k+n - 1 by omega]at this;exact this) (h.beg n Oo);omega
theorem qFi(O:SL R)(hl:∀r∈R,q.length < r.length)(M:Sk R q k)(h:Run R q k n)(U:k+n < R.length->(R.getD (k+n) []).take q.length≠q)(x:Int):x∈VA R q k n↔∃r∈R,q++[x] <+:r:=by
 rw[Un];constructor
 ·rintro⟨j,V,rfl⟩;have hle:=h.le;refine⟨R.getD (k+j) [],?_,Xo hl Oo (h.beg j V)⟩;rw[gD,bC Oo];exact gM _
 ·rintro⟨r,hr,hp⟩;obtain⟨i,hi,rfl⟩:=gO hr;have hg:R.getD i []=R[i]:=by rw[gD,bC hi];rfl
  rw[<-hg]at hp;obtain⟨g1,g2,g3⟩:=JZ hp
  have K:(R.getD i []).take q.length=q:=by
   obtain⟨t,K⟩:=hp;rw[<-K,List.append_assoc,List.take_left]
  have a2:k<=i:=by
   rcases Nat.lt_or_ge i k with I|I
   ·have:=M.lo i I;rw[K,zp]at this;omega
   ·exact I
  have a3:i < k+n:=by
   rcases Nat.lt_or_ge i (k+n)with I|I
   ·exact I
   ·exfalso;have h2:=Qj q.length (qBG O I hi);rw[K]at h2;have h3:=M.hi (k+n) Oo Oo;exact U Oo (cmpL_eq Oo)
  exact⟨i - k,Oo,by rw[show k+(i - k)=i by omega];exact g3⟩
end
theorem X7{K:Addr}{c m:Nat}(h:IS w (.slice (some K) n c) l)(M:m<=l.length):IS w (.slice (some K) m c) (l.take m):=by
 obtain⟨a,c',e,I⟩:=h;simp only[Value.slice.injEq]at e;obtain⟨rfl,-,rfl⟩:=e;have hl:(l.take m).length=m:=by rw[bZ];omega
 refine⟨_,c,by rw[hl],?_⟩;rcases I with I|⟨b,o,e,I⟩
 ·exact Or.inl Oo
 ·exact Or.inr ⟨b,o,e,λj O=>by rw[zq Oo];exact I j Oo⟩
theorem QR(w:World)(vr vq:Value)(rows:List (List Int))(q:List Int)(h:ISSc w vr rows)(hq:IS w vq q)(hS:SL rows)(hn:rows.length<=1099511627776)(hl:∀r∈rows,q.length<=r.length/\r.length<=1099511627776):
 Cl 86 #[vr,vq] w λe w'=>∃k:Nat,e=.returned (.int .i64 k)/\Sk rows q k/\∃d,w'=w.drewN d:=by
 obtain⟨ar,cr,rfl,hc⟩:=h
 have HC:Hid (∀j,j < rows.length->∃(b o:Nat) (O:Option Addr) (lr cu:Nat),ar=some ⟨b,o,none⟩/\w.cell? ⟨b,o+j,none⟩=some (.slice O lr cu)/\q.length<=lr/\lr<=cu/\(O=none->lr=0)/\∀d ad,O=some ad->Cl 81 #[.slice (some ad) q.length cu,vq] (w.drewN d) λe w'=>e=.returned (.int .i64 (cmpL ((rows.getD j []).take q.length) q))/\∃q',w'=(w.drewN d).drewN q'):=hid λj hj=>by
  rcases hc with h0|⟨b,o,rfl,h⟩
  ·omega
  ·obtain⟨u,U,hI,a',n',c',e,a4⟩:=h j hj;have hm:=hl _ (by rw[gD,bC hj];exact gM _:rows.getD j []∈rows);have a8:=hI;obtain⟨O,cu,eu,M⟩:=hI;subst eu;simp only[Value.slice.injEq]at e;obtain⟨-,rfl,rfl⟩:=e;refine⟨b,o,O,_,cu,rfl,U,hm.1,a4,λe=>?_,λd ad e=>?_⟩
   ·rcases M with M|⟨b2,o2,e2,-⟩
    ·exact M
    ·rw[e]at e2;cases e2
   ·subst e;have h3:=X7 a8 hm.1;exact zB (w.drewN d) _ vq _ q (h3.below (below_drewN (bM _ _) d)) (hq.below (below_drewN (bM _ _) d)) (by rw[bZ];omega) Oo
 have HD:Hid (∀i j,i<=j->j < rows.length->cmpL ((rows.getD j []).take q.length) q < 0->cmpL ((rows.getD i []).take q.length) q < 0):=hid λi j a9 hj hc=>qAJ hS a9 hj hc;have HF:Hid (∀k,k<=rows.length->(∀t,t < k->cmpL ((rows.getD t []).take q.length) q < 0)->(∀t,k<=t->t < rows.length->¬cmpL ((rows.getD t []).take q.length) q < 0)->Sk rows q k):=hid λk U M h3=>⟨U,M,h3⟩
 have KN:Hid (q.length=0->∀d cu j,Cl 81 #[.slice none 0 cu,vq] (w.drewN d) λe w'=>e=.returned (.int .i64 (cmpL ((rows.getD j []).take q.length) q))/\∃q',w'=(w.drewN d).drewN q'):=hid λh0 d cu j=>by
  rw[h0,List.take_zero];exact zB (w.drewN d) _ vq [] q ⟨none,cu,rfl,Or.inl rfl⟩ (hq.below (below_drewN (bM _ _) d)) Ss Oo
 clear hc hS hl;obtain⟨aq,cq,rfl,-⟩:=hq;generalize rows.length=n at *;generalize hm:q.length=m at *;have b7:=hid hm;clear hm;obtain⟨C,hC⟩:∃C:Nat->Int,C=λj=>cmpL ((rows.getD j []).take m) q:=⟨_,rfl⟩;have a5:Hid (∀j,cmpL ((rows.getD j []).take m) q=C j):=hid λj=>by rw[hC]
 simp only[a5.out]at HC HD HF KN;clear hC a5;go_enter Tryz.func86,Tryz.ntmps86
 go_wp2;go_loopg [5,6] n (λg s5 s6 wr=>∃lo hi d:Nat,s5=.int .i64 lo/\s6=.int .i64 hi/\lo<=hi/\hi<=n/\hi - lo<=g/\wr=w.drewN d/\Hid ((∀t,t < lo->C t < 0)/\(∀t,hi<=t->t < n->¬C t < 0)))
 case atStart=>exact⟨0,n,0,rfl,rfl,nZ _,bK _,Oo,rfl,hid ⟨λt ht=>absurd ht (Nat.not_lt_zero _),λt U M=>Oo⟩⟩
 case round=>
  obtain⟨lo,hi,d,rfl,rfl,b9,a6,hg,rfl,I⟩:=hrel;by_cases c7:lo < hi
  ·obtain⟨b,o,O,lr,cu,ea,c1,c8,c9,a7,K⟩:=HC.out ((lo+hi) / 2) Oo;subst ea;have d0:m<=cu:=Oo
   have KC:Hid (∀d,Cl 81 #[.slice O m cu,.slice aq m cq] (w.drewN d) λe w'=>e=.returned (.int .i64 (C ((lo+hi) / 2)))/\∃q',w'=(w.drewN d).drewN q'):=hid λd=>by
    cases O with
    |none=>
     have h0:m=0:=by have:=a7 rfl;omega
     have:=KN.out h0 d cu ((lo+hi) / 2);rw[h0]at this ⊢;exact this
    |some ad=>exact K d ad rfl
   have V:Hid (C ((lo+hi) / 2) < 0->∀t,t < (lo+hi) / 2+1->C t < 0):=hid λh t ht=>HD.out t ((lo+hi) / 2) Oo Oo h;have a2:Hid (¬C ((lo+hi) / 2) < 0->∀t,(lo+hi) / 2<=t->t < n->¬C t < 0):=hid λh t U M h3=>h (HD.out ((lo+hi) / 2) t U M h3);clear K a7 HC KN HD HF;generalize C ((lo+hi) / 2)=y at *;by_cases hy:y < 0
   ·have a3:Hid ((∀t,t < (lo+hi) / 2+1->C t < 0)/\(∀t,hi<=t->t < n->¬C t < 0)):=hid ⟨V.out hy,I.out.2⟩;have b0:decide (y < 0)=true:=decide_eq_true hy;clear I V a2;go_wp2_with fail
    refine(KC.out _).mono ?_;rintro e w2 ⟨rfl,d2,rfl⟩;go_wp2_with fail
    go_roundg (hi - ((lo+hi) / 2+1))
    case measure=>omega
    case rel=>exact⟨(lo+hi) / 2+1,hi,_,by rw[show((lo:Int)+(hi:Int)) / 2+1=(((lo+hi) / 2+1:Nat):Int)by omega],rfl,Oo,a6,bK _,rfl,a3⟩
   ·have a3:Hid ((∀t,t < lo->C t < 0)/\(∀t,(lo+hi) / 2<=t->t < n->¬C t < 0)):=hid ⟨I.out.1,a2.out hy⟩;have b0:decide (y < 0)=false:=decide_eq_false hy;clear I V a2;go_wp2_with fail
    refine(KC.out _).mono ?_;rintro e w2 ⟨rfl,d2,rfl⟩;go_wp2_with fail
    go_roundg ((lo+hi) / 2 - lo)
    case measure=>omega
    case rel=>exact⟨lo,(lo+hi) / 2,_,rfl,by rw[show((lo:Int)+(hi:Int)) / 2=(((lo+hi) / 2:Nat):Int)by omega],Oo,Oo,bK _,rfl,a3⟩
  ·obtain rfl:hi=lo:=Oo;have HE:=hid (HF.out hi a6 I.out.1 (λt U M=>by have:=I.out.2 t U M;omega));clear HC HD HF KN I;go_wp2_with fail
   go_ret;exact⟨_,rfl,HE.out,_,rfl⟩
theorem X8(w:World)(vr O:Value)(rows:List (List Int))(q:List Int)(h:ISSc w vr rows)(hq:IS w O q)(hS:SL rows)(hn:rows.length<=1099511627776)(hl:∀r∈rows,q.length<=r.length/\r.length<=1099511627776):
 Cl 87 #[vr,O] w λe w'=>e=.returned (.bool (yU rows q))/\∃d,w'=w.drewN d:=by
 have KS:=hid (QR w vr O rows q h hq hS hn hl);have HB:Hid (∀k,Sk rows q k->k<=rows.length/\yU rows q=(decide (k < rows.length)&&decide (cmpL ((rows.getD k []).take q.length) q=0))):=hid λk V=>⟨V.le,V.beg hS⟩;obtain⟨ar,cr,rfl,hc⟩:=h
 have HC:Hid (∀j,j < rows.length->∃(b o:Nat) (U:Option Addr) (lr cu:Nat),ar=some ⟨b,o,none⟩/\w.cell? ⟨b,o+j,none⟩=some (.slice U lr cu)/\q.length<=lr/\lr<=cu/\∀d,Cl 81 #[.slice U q.length cu,O] (w.drewN d) λe w'=>e=.returned (.int .i64 (cmpL ((rows.getD j []).take q.length) q))/\∃q',w'=(w.drewN d).drewN q'):=hid λj hj=>by
  rcases hc with h0|⟨b,o,rfl,h⟩
  ·omega
  ·obtain⟨u,h1,hI,a',n',c',e,a2⟩:=h j hj;have hm:=hl _ (by rw[gD,bC hj];exact gM _:rows.getD j []∈rows);have a5:=hI;obtain⟨U,cu,eu,h2⟩:=hI;subst eu;simp only[Value.slice.injEq]at e;obtain⟨-,rfl,rfl⟩:=e;refine⟨b,o,U,_,cu,rfl,h1,hm.1,a2,λd=>?_⟩;have a3:=hq.below (below_drewN (bM _ _) d);cases U with
   |none=>
    have h0:(rows.getD j []).length=0:=by
     rcases h2 with h2|⟨b2,o2,e2,-⟩
     ·exact h2
     ·cases e2
    have e1:(rows.getD j []).take q.length=[]:=by rw[List.length_eq_zero_iff.1 h0,List.take_nil]
    have e2:q.length=0:=Oo;rw[e1,e2];exact zB (w.drewN d) _ O [] q ⟨none,cu,rfl,Or.inl rfl⟩ a3 Ss Oo
   |some ad=>
    have h3:=X7 a5 hm.1;exact zB (w.drewN d) _ O _ q (h3.below (below_drewN (bM _ _) d)) a3 (by rw[bZ];omega) Oo
 clear hc hS hl;obtain⟨aq,cq,rfl,-⟩:=hq;generalize yU rows q=ans at *;obtain⟨C,hC⟩:∃C:Nat->Int,C=λj=>cmpL ((rows.getD j []).take q.length) q:=⟨_,rfl⟩;have a4:Hid (∀j,cmpL ((rows.getD j []).take q.length) q=C j):=hid λj=>by rw[hC]
 simp only[a4.out]at HC HB;clear hC a4;generalize rows.length=n at *;generalize q.length=m at *;go_enter Tryz.func87,Tryz.ntmps87
 go_wp2_with fail
 refine KS.out.mono ?_;rintro e w2 ⟨k,rfl,V,d,rfl⟩;obtain⟨a6,I⟩:=HB.out k V;clear KS HB V;by_cases M:k < n
 ·obtain⟨b,o,U,lr,cu,ea,c1,a7,a8,K⟩:=HC.out k M;subst ea;have i1:(k:Int) < (n:Int):=Oo;have a9:m<=cu:=Oo;have KC:=hid K;have HA:Hid (ans=decide (C k=0)):=hid (by rw[I,decide_eq_true M,Bool.true_and]);clear K HC I;generalize C k=y at *;go_wp2_with fail
  refine(KC.out _).mono ?_;rintro e w3 ⟨rfl,d3,rfl⟩;go_wp2_with fail
  go_ret;exact⟨qI (by rw[HA.out];first|rfl|simp),_,rfl⟩
 ·have i1:¬((k:Int) < (n:Int)):=Oo;rw[decide_eq_false M,Bool.false_and]at I;subst I;clear HC;go_wp2_with fail
  go_ret;exact⟨rfl,_,rfl⟩
theorem JI{p:Int->Bool}(I:k < l.length):(l.take (k+1)).filter p=if p (l.getD k 0) then (l.take k).filter p++[l.getD k 0] else (l.take k).filter p:=by
 rw[tA,bC I,List.filter_append];have e:l.getD k 0=l[k]:=by rw[gD,bC I];rfl
 rw[e];simp only[Option.toList_some];by_cases h:p l[k]=true
 ·rw[if_pos h,List.filter_cons_of_pos h];rfl
 ·rw[if_neg h,List.filter_cons_of_neg h];simp
theorem JJ(w:World)(v v2:Value)(l U:List Int)(h:IS w v l)(hl:l.length<=1099511627776)(h2:IS w v2 U)(a8:U.length<=1099511627776):
 Cl 82 #[v,v2] w λe w'=>∃g cap,e=.returned (.slice (some ⟨g,0,none⟩) (shr l U).length cap)/\w'.ownsRow w.heap.size 3 1 (.slice (some ⟨g,0,none⟩) (shr l U).length cap) (shr l U).length ((shr l U).map (Value.int .i64))/\Bl w w':=by
 obtain⟨i0,hi,a9,b7,b9⟩:=info_parts Tryz.infoInt;obtain⟨a,cap,rfl,hc⟩:=h;have H2:=hid h2;obtain⟨a2,c9,rfl,-⟩:=h2;obtain⟨I,V⟩:∃I:Nat->List Int,I=λk=>(l.take k).filter λx=>decide (x∈U):=⟨_,rfl⟩;have HS:Hid (∀k,k < l.length->I (k+1)=if decide (l.getD k 0∈U) then I k++[l.getD k 0] else I k):=hid λk hk=>by rw[V];exact JI hk
 have H0:Hid (I 0=[]):=hid (by rw[V];rfl);have HE:Hid (I l.length=shr l U):=hid (by rw[V];simp[shr])
 have d0:Hid (∀k,(I k).length<=k):=hid λk=>by
  rw[V];exact bQ (List.length_filter_le _ _) (by simp;omega)
 rw[<-HE.out];obtain⟨n,hn⟩:∃n,n=l.length:=⟨_,rfl⟩;rw[<-hn]at hc hl HS ⊢;have HC:=hid hc;clear hc hn V HE;go_enter Tryz.func82,Tryz.ntmps82
 go_wp2;have b0:Bl w (w.alloc (.cells #[] 3)):=(bM _ _).alloc (bK _) _;have a5:=hid b0;clear b0;go_loopw [5,11] (λv t wr=>∃k g cp lk:Nat,k<=n/\t=.int .i64 k/\v=.slice (some ⟨g,0,none⟩) lk cp/\lk<=k/\Hid (lk=(I k).length/\wr.ownsRow w.heap.size 3 1 (.slice (some ⟨g,0,none⟩) lk cp) lk ((I k).map (Value.int .i64))/\Bl w wr)) (λ_ t _=>n - (intOf t).toNat)
 case atStart=>exact⟨0,w.heap.size,0,0,nZ _,rfl,rfl,bK _,hid (by rw[H0.out];exact⟨rfl,oM w #[] 0 (bK _) Dd rfl,a5.out⟩)⟩
 case round=>
  clear a5;obtain⟨k,g,cp,lk,hk,rfl,rfl,d6,O⟩:=hrel;have c7:=O.out.2.2.size;by_cases a4:k < n
  ·have i1:(k:Int) < (n:Int):=Oo;rcases HC.out with h0|⟨b,o,rfl,K⟩
   ·omega
   ·have c1:wr.cell? ⟨b,o+k,none⟩=some (.int .i64 (l.getD k 0)):=(O.out.2.2.cell (bL w _ (K k a4))).trans (K k a4);have HK:=hid (qU wr _ U (l.getD k 0) (H2.out.below O.out.2.2) a8);have e1:=HS.out k a4;clear K;generalize decide (l.getD k 0∈U)=y at *;generalize l.getD k 0=x at *;cases y
    ·rw[if_neg Dd]at e1;have HF:Hid (lk=(I (k+1)).length/\wr.ownsRow w.heap.size 3 1 (.slice (some ⟨g,0,none⟩) lk cp) lk ((I (k+1)).map (Value.int .i64))/\Bl w wr):=hid (by rw[e1];exact O.out);clear e1 O;go_wp2_with fail
     refine HK.out.mono ?_;rintro e w1 ⟨rfl,c8⟩;subst w1;go_wp2_with fail
     go_roundw
     case rel=>exact⟨k+1,g,cp,lk,Oo,Gg,rfl,Oo,HF⟩
     case measure=>simp[intOf];omega
    ·rw[if_pos rfl]at e1;have E1:=hid e1;clear e1;go_wp2_with fail
     refine HK.out.mono ?_;rintro e w1 ⟨rfl,c8⟩;subst w1
     go_wp2_with (first
      |(at_builtin;refine wpList_append_lies _ rfl _ _ 25 rfl w.heap.size 3 i0 (.int .i64 0) 1 8 Tryz.underlying25 hi a9 b7 b9 rfl Dd (.slice (some ⟨g,0,none⟩) lk cp) _ _ rfl (O.out.2.1.alloc _) ⟨_,0,none⟩ 1 1 [.int .i64 x] rfl rfl (qH _ _ _) (λu hu=>by simp at hu;subst hu;rfl) Dd (by unfold maxLen;omega) Oo (by simp;omega) _ rfl ?_;intro g3 cp3 w3 a3 M a6 a7)|fail)
     have HF:Hid (lk+1=(I (k+1)).length/\w3.ownsRow w.heap.size 3 1 (.slice (some ⟨g3,0,none⟩) (lk+1) cp3) (lk+1) ((I (k+1)).map (Value.int .i64))/\Bl w w3):=hid (by
      rw[E1.out,lA,lS,mA];exact⟨by rw[O.out.1],a3,(O.out.2.2.alloc c7 _).grown M (by simp;omega) (λq hq=>(O.out.2.1.lt q hq).1)⟩)
     clear a3 M a6 a7 O;go_roundw
     case rel=>exact⟨k+1,g3,cp3,lk+1,Oo,Gg,rfl,Oo,HF⟩
     case measure=>simp[intOf];omega
  ·obtain rfl:k=n:=Oo;have i1:¬((k:Int) < (k:Int)):=Oo;obtain⟨h1,h3,h4⟩:=O.out;have HF:Hid (wr.ownsRow w.heap.size 3 1 (.slice (some ⟨g,0,none⟩) (I k).length cp) (I k).length ((I k).map (Value.int .i64))/\Bl w wr):=hid (by rw[<-h1];exact⟨h3,h4⟩);have H1:=hid h1;clear h1 h3 h4 O;go_wp2_with fail
   go_ret;exact⟨g,cp,by rw[H1.out];rfl,HF.out.1,HF.out.2⟩
theorem QQ(h:qL l=true)(hi:i < l.length):zc l i=true:=by
 unfold qL at h;rw[bY]at h;exact h i (by simpa using hi)
theorem ZQ{l:List Int}(h:qL l=true):∀i,i < l.length->(i:Int)<=l.getD i 0/\l.getD i 0 < 6
 |0,hi=>by
  have:=QQ h hi;unfold zc at this;simp only[Bool.and_eq_true,decide_eq_true_eq]at this;omega
 |i+1,hi=>by
  have:=QQ h hi;have I:=ZQ h i Oo;unfold zc at this;simp only[Bool.and_eq_true,Bool.or_eq_true,decide_eq_true_eq,Nat.add_sub_cancel]at this;omega
theorem U8(h:qL l=true):l.length<=6:=by
 rcases Nat.lt_or_ge 6 l.length with I|I
 ·have:=ZQ h 6 I;omega
 ·exact I
theorem qEs(h:qL l=true):l.Pairwise (·< ·):=by
 have step:∀j,j < l.length->∀i,i < j->l.getD i 0 < l.getD j 0:=by
  intro j;induction j with
  |zero=>intro _ i hi;omega
  |succ j ih=>
   intro I i hi;have:=QQ h I;unfold zc at this;simp only[Bool.and_eq_true,Bool.or_eq_true,decide_eq_true_eq,Nat.add_sub_cancel]at this;by_cases e:i=j
   ·subst e;omega
   ·have:=ih Oo i Oo;omega
 rw[List.pairwise_iff_getElem];intro i j hi I K;have:=step j I i K;rw[gD,bC hi,gD,bC I]at this;exact this
theorem jT{ws:List Int}(h:zd vs rows ws=true):qL vs=true/\rows.length<=10000/\∀r∈rows,r.length=vs.length:=by
 unfold zd at h;simp only[Bool.and_eq_true,decide_eq_true_eq]at h;refine⟨h.1.1.1,h.1.1.2,λr hr=>?_⟩;obtain⟨i,hi,e⟩:=gO hr;have I:=h.1.2;unfold xk at I;rw[bY]at I;have K:=I i (by simpa using hi);unfold rowAt at K;simp only[Bool.and_eq_true,decide_eq_true_eq]at K;rw[gD,bC hi,Option.getD_some,e]at K;omega
theorem qA6{p:Int->Bool}(I:j < l.length)(h:p (l.getD j 0)=false):l.all p=false:=by
 rw[List.all_eq_false];refine⟨l[j],gM _,?_⟩;rw[gD,bC I,Option.getD_some]at h;rw[h];decide
theorem qCM{p:Int->Bool}(h:∀j,j < l.length->p (l.getD j 0)=true):l.all p=true:=by
 rw[bY];intro x I;obtain⟨i,hi,e⟩:=gO I;have:=h i hi;rw[gD,bC hi,Option.getD_some,e]at this;exact this
theorem JA(w:World)(v v2:Value)(l K:List Int)(h:IS w v l)(hl:l.length<=1099511627776)(h2:IS w v2 K)(V:K.length<=1099511627776):
 Cl 22 #[v,v2] w λe w'=>e=.returned (.bool (jU l K))/\w'=w:=by
 obtain⟨a,cap,rfl,hc⟩:=h;have H2:=hid h2;obtain⟨a2,a4,rfl,-⟩:=h2;obtain⟨res,I⟩:∃r,r=jU l K:=⟨_,rfl⟩;rw[<-I]
 have HF:Hid (∀j,j < l.length->decide (l.getD j 0∈K)=false->res=false):=hid λj hj e=>by
  rw[I];unfold jU;exact qA6 (p:=λx=>decide (x∈K)) hj e
 have HT:Hid ((∀j,j < l.length->decide (l.getD j 0∈K)=true)->res=true):=hid λh1=>by
  rw[I];unfold jU;exact qCM (p:=λx=>decide (x∈K)) h1
 obtain⟨n,hn⟩:∃n,n=l.length:=⟨_,rfl⟩;rw[<-hn]at hc hl HF HT ⊢;have HC:=hid hc;clear hc hn I;go_enter Tryz.func22,Tryz.ntmps22
 go_wp2_with fail
 go_loop [9] (λt=>∃j:Nat,j<=n/\t=.int .i64 j/\Hid (∀i,i < j->decide (l.getD i 0∈K)=true)) (λt=>n - (intOf t).toNat)
 case atStart=>exact⟨0,nZ _,rfl,hid (λi hi=>Oo)⟩
 case round=>
  obtain⟨j,hj,rfl,O⟩:=hrel;by_cases U:j < n
  ·have i1:(j:Int) < (n:Int):=Oo;rcases HC.out with h0|⟨b,o,rfl,M⟩
   ·omega
   ·have c1:=M j U;have HK:=hid (qU w _ K (l.getD j 0) H2.out V);have fin:=HF.out j U
    have nxt:decide (l.getD j 0∈K)=true->Hid (∀i,i < j+1->decide (l.getD i 0∈K)=true):=λe i hi=>by
     by_cases e2:i=j
     ·rw[e2];exact e
     ·exact O.out i Oo
    clear M O;generalize decide (l.getD j 0∈K)=y at *;generalize l.getD j 0=x at *;cases y
    ·obtain rfl:=fin rfl;clear nxt;go_wp2_with fail
     refine HK.out.mono ?_;rintro e w1 ⟨rfl,a3⟩;subst w1;go_wp2_with fail
     go_ret;exact⟨rfl,rfl⟩
    ·have hf:=nxt rfl;clear fin nxt;go_wp2_with fail
     refine HK.out.mono ?_;rintro e w1 ⟨rfl,a3⟩;subst w1;go_wp2_with fail
     go_round
     case rel=>exact⟨j+1,Oo,Gg,hf⟩
     case measure=>simp[intOf];omega
  ·obtain rfl:j=n:=Oo;obtain rfl:=HT.out O.out;have i1:¬((j:Int) < (j:Int)):=Oo;clear O;go_wp2_with fail
   go_ret;exact⟨rfl,rfl⟩
end Go.Proofs.YtkaipapdlnojiaaGreat
