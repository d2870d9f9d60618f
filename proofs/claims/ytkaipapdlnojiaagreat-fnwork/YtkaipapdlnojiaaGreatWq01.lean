import Derived.Test.YtkaipapdlnojiaaGreatWq00
set_option maxHeartbeats 40000000
set_option maxRecDepth 1000000
namespace Go.Proofs.YtkaipapdlnojiaaGreat.Cov
structure Run(m n:Nat)(A:Nat->Nat->Rat)(cost:Nat->Rat)(bar:Nat->Bool)(N:Nat)(T:Nat->Nat->Nat->Rat)(B:Nat->Nat->Nat)(r c:Nat->Nat):Prop where
 inv:∀k,k<=N->Inv m n A (T k) (B k)
 feas:∀k,k<=N->∀i,i < m->0<=T k i n
 rlt:∀k,k < N->r k < m
 clt:∀k,k < N->c k < n
 unbar:∀k,k < N->bar (c k)=false
 neg:∀k,k < N->red m cost (T k) (B k) (c k) < 0
 least:∀k,k < N->∀j,j < c k->bar j=false->0<=red m cost (T k) (B k) j
 pos:∀k,k < N->0 < T k (r k) (c k)
 tie:∀k,k < N->∀i,i < m->0 < T k i (c k)->T k i n / T k i (c k)=T k (r k) n / T k (r k) (c k)->B k (r k)<=B k i
 nextT:∀k,k < N->T (k+1)=pivT (T k) (r k) (c k)
 nextB:∀k,k < N->B (k+1)=pivB (B k) (r k) (c k)
def InB(m:Nat)(B:Nat->Nat)(j:Nat):Prop:=∃i,i < m/\B i=j
def obj(m n:Nat)(cost:Nat->Rat)(T:Nat->Nat->Rat)(B:Nat->Nat):Rat:=sm m (λi=>cost (B i)*T i n)
theorem qBf{m n:Nat}{A T:Nat->Nat->Rat}{B:Nat->Nat}(h:Inv m n A T B)(cost:Nat->Rat){r c:Nat}(hr:r < m)(hp:T r c≠0):
 obj m n cost (pivT T r c) (pivB B r c)=obj m n cost T B+red m cost T B c*(T r n / T r c):=by
 have K:=red_pivot h cost hr hp n;have e:∀(I:Nat->Nat->Rat) (B':Nat->Nat),red m cost I B' n=cost n - obj m n cost I B':=λ_ _=>rfl;rw[e,e]at K;grind
theorem XX{m n:Nat}{A T:Nat->Nat->Rat}{B:Nat->Nat}(h:Inv m n A T B)(cost:Nat->Rat):
 obj m n cost T B=sm n (λj=>val m (λi=>T i n) B j*cost j):=by
 rw[Zt _ B h.lt];exact sm_congr (λi _=>Rr)
theorem jy{a b:Rat}(I:0<=a)(hb:0 < b):0<=a / b:=by
 rw[Rat.div_def];exact Rat.mul_nonneg I (Rat.le_of_lt (Rat.inv_pos.2 hb))
theorem vu{a b:Rat}(I:a<=0)(hb:0<=b):a*b<=0:=by
 have:=Rat.mul_nonneg (show 0<=-a by grind) hb;grind
theorem uF{a b:Rat}(I:a<=0)(hb:b<=0):0<=a*b:=by
 have:=Rat.mul_nonneg (show 0<=-a by grind) (show 0<=-b by grind);grind
section
variable {m n:Nat} {A:Nat->Nat->Rat} {cost:Nat->Rat} {bar:Nat->Bool} {N:Nat} {T:Nat->Nat->Nat->Rat} {B:Nat->Nat->Nat} {r c:Nat->Nat}
theorem Run.obj_step(h:Run m n A cost bar N T B r c){k:Nat}(I:k < N):
 obj m n cost (T (k+1)) (B (k+1))=obj m n cost (T k) (B k)+red m cost (T k) (B k) (c k)*(T k (r k) n / T k (r k) (c k)):=by
 rw[h.nextT k I,h.nextB k I];have:=h.pos k I;exact qBf (h.inv k Oo) cost (h.rlt k I) Rr
theorem Run.ratio_nonneg(h:Run m n A cost bar N T B r c){k:Nat}(I:k < N):0<=T k (r k) n / T k (r k) (c k):=
 jy (h.feas k Oo _ (h.rlt k I)) (h.pos k I)
theorem Run.obj_le(h:Run m n A cost bar N T B r c)(a:Nat):∀d,a+d<=N->obj m n cost (T (a+d)) (B (a+d))<=obj m n cost (T a) (B a)
 |0,_=>by rw[Nat.add_zero];grind
 |d+1,hd=>by
  have K:=Run.obj_le h a d Oo;have I:=h.obj_step (k:=a+d) Oo;have M:=vu (Rat.le_of_lt (h.neg (a+d) Oo)) (h.ratio_nonneg (k:=a+d) Oo);rw[show a+(d+1)=a+d+1 by omega,I];grind
theorem qCn{M O:Nat->Nat->Rat}{I K:Nat->Nat}(U:Inv m n A M I)(h2:Inv m n A O K)(hs:∀j,InB m K j->InB m I j):
 ∀j,j < n->val m (λi=>M i n) I j=val m (λi=>O i n) K j:=by
 have hd:Hom m n A (λj=>val m (λi=>M i n) I j+(-1)*val m (λi=>O i n) K j):=by
  intro q hq;have e:(λj=>(val m (λi=>M i n) I j+(-1)*val m (λi=>O i n) K j)*A j q)=λj=>val m (λi=>M i n) I j*A j q+(-1)*(val m (λi=>O i n) K j*A j q):=by funext j;grind
  rw[e,sm_add,sm_mul,U.sol_basic q hq,h2.sol_basic q hq];grind
 have hr:=U.hom_rows hd
 have hz:∀j,¬InB m I j->val m (λi=>M i n) I j=0/\val m (λi=>O i n) K j=0:=by
  intro j hj;exact⟨val_not (λi hi e=>hj ⟨i,hi,e⟩),val_not (λi hi e=>hj (hs j ⟨i,hi,e⟩))⟩
 intro j hj;by_cases hb:InB m I j
 ·obtain⟨i,hi,rfl⟩:=hb;have h3:=hr i hi;rw[sm_single (k:=I i) (U.lt i hi)]at h3
  ·rw[U.unit i hi i hi,if_pos rfl]at h3;grind
  ·intro j' a4 a2;by_cases V:InB m I j'
   ·obtain⟨i',a3,rfl⟩:=V;rw[U.unit i hi i' a3,if_neg (λe=>a2 (by rw[e]))];grind
   ·obtain⟨z1,z2⟩:=hz j' V;rw[z1,z2];grind
 ·obtain⟨z1,z2⟩:=hz j hb;rw[z1,z2]
theorem Run.leave(h:Run m n A cost bar N T B r c)(j a:Nat):∀d,a+d<=N->InB m (B a) j->¬InB m (B (a+d)) j->∃k,a<=k/\k < a+d/\B k (r k)=j
 |0,_,h1,h2=>absurd h1 h2
 |d+1,hd,h1,h2=>by
  by_cases I:InB m (B (a+d)) j
  ·refine⟨a+d,Oo,Oo,?_⟩;obtain⟨i,hi,K⟩:=I;by_cases e:i=r (a+d)
   ·rw[<-e];exact K
   ·exfalso;apply h2;refine⟨i,hi,?_⟩;rw[show a+(d+1)=a+d+1 by omega,h.nextB (a+d) Oo];unfold pivB;rw[if_neg e];exact K
  ·obtain⟨k,M,U,O⟩:=Run.leave h j a d Oo h1 I;exact⟨k,M,Oo,O⟩
theorem Run.enter(h:Run m n A cost bar N T B r c)(j a:Nat):∀d,a+d<=N->¬InB m (B a) j->InB m (B (a+d)) j->∃k,a<=k/\k < a+d/\c k=j
 |0,_,h1,h2=>absurd h2 h1
 |d+1,hd,h1,h2=>by
  by_cases K:InB m (B (a+d)) j
  ·obtain⟨k,M,U,O⟩:=Run.enter h j a d Oo h1 K;exact⟨k,M,Oo,O⟩
  ·refine⟨a+d,Oo,Oo,?_⟩;obtain⟨i,hi,I⟩:=h2;rw[show a+(d+1)=a+d+1 by omega,h.nextB (a+d) Oo]at I;unfold pivB at I;by_cases e:i=r (a+d)
   ·rw[if_pos e]at I;exact I
   ·rw[if_neg e]at I;exact absurd ⟨i,hi,I⟩ K
theorem V6(c:Nat->Nat)(p:Nat):∀d,∃l,p<=l/\l < p+d+1/\∀k,p<=k->k < p+d+1->c k<=c l
 |0=>⟨p,Oo,Oo,λk M U=>by rw[show k=p by omega];exact bK _⟩
 |d+1=>by
  obtain⟨l,M,U,O⟩:=V6 c p d;by_cases e:c l<=c (p+d+1)
  ·refine⟨p+d+1,Oo,Oo,λk I V=>?_⟩;by_cases K:k=p+d+1
   ·rw[K];exact bK _
   ·exact bQ (O k I Oo) e
  ·refine⟨l,M,Oo,λk I V=>?_⟩;by_cases K:k=p+d+1
   ·rw[K];omega
   ·exact O k I Oo
theorem Run.no_cycle(h:Run m n A cost bar N T B r c)(p d:Nat)(hq:p+d+1<=N)(same:∀j,InB m (B p) j↔InB m (B (p+d+1)) j):False:=by
 have d9:obj m n cost (T (p+d+1)) (B (p+d+1))=obj m n cost (T p) (B p):=by
  rw[XX (h.inv _ hq) cost,XX (h.inv p Oo) cost];refine sm_congr (λj hj=>?_);rw[qCn (h.inv p Oo) (h.inv _ hq) (λj hj=>(same j).2 hj) j hj]
 have hzero:∀k,p<=k->k < p+d+1->T k (r k) n=0:=by
  intro k K h2;have e1:=h.obj_le p (k - p) Oo;have e2:=h.obj_le (k+1) (p+d+1 - (k+1)) Oo;rw[show p+(k - p)=k by omega]at e1;rw[show k+1+(p+d+1 - (k+1))=p+d+1 by omega]at e2;have e3:=h.obj_step (k:=k) Oo;have e4:=h.ratio_nonneg (k:=k) Oo;have e5:=h.neg k Oo;have e6:=h.pos k Oo
  have e7:red m cost (T k) (B k) (c k)*(T k (r k) n / T k (r k) (c k))=0:=by
   have:=vu (Rat.le_of_lt e5) e4;grind
  have e8:T k (r k) n / T k (r k) (c k)=0:=by
   rcases Rat.mul_eq_zero.1 e7 with e|e
   ·grind
   ·exact e
  grind
 have a9:∀e,e<=d+1->∀j,val m (λi=>T (p+e) i n) (B (p+e)) j=val m (λi=>T p i n) (B p) j:=by
  intro e;induction e with
  |zero=>intro _ j;rfl
  |succ e ih=>
   intro he j;rw[<-ih Oo j];have hz:=hzero (p+e) Oo Oo;refine sm_congr (λi hi=>?_);rw[show p+(e+1)=p+e+1 by omega,h.nextT (p+e) Oo,h.nextB (p+e) Oo];unfold pivT pivB;dsimp only;rw[hz];by_cases ei:i=r (p+e)
   ·rw[if_pos ei,if_pos ei,ei,hz];have:(0:Rat) / T (p+e) (r (p+e)) (c (p+e))=0:=Rr;rw[this];split <;> split <;> rfl
   ·rw[if_neg ei,if_neg ei];split
    ·grind
    ·rfl
 have U:∀k,p<=k->k<=p+d+1->∀j,val m (λi=>T k i n) (B k) j=val m (λi=>T p i n) (B p) j:=by
  intro k K h2 j;have:=a9 (k - p) Oo j;rwa[show p+(k - p)=k by omega]at this
 obtain⟨l,c9,e9,a2⟩:=V6 c p d
 have I:∀k,k < N->¬InB m (B k) (c k):=by
  intro k hk ⟨i,hi,e⟩;have K:=h.neg k hk;rw[<-e,(h.inv k Oo).red_basic cost hi]at K;grind
 have d0:InB m (B (l+1)) (c l):=by
  refine⟨r l,h.rlt l Oo,?_⟩;rw[h.nextB l Oo];exact if_pos rfl
 obtain⟨k,a5,b0,a6⟩:∃k,p<=k/\k < p+d+1/\B k (r k)=c l:=by
  by_cases hc:InB m (B (p+d+1)) (c l)
  ·have K:=(same (c l)).2 hc;have h2:=I l Oo;rw[show l=p+(l - p)by omega]at h2;have a7:¬InB m (B (p+(l - p))) (c l):=by rw[show p+(l - p)=l by omega];exact I l Oo
   obtain⟨k,a,b,e⟩:=h.leave (c l) p (l - p) Oo K a7;exact⟨k,a,Oo,e⟩
  ·have a7:¬InB m (B (l+1+(p+d+1 - (l+1)))) (c l):=by rw[show l+1+(p+d+1 - (l+1))=p+d+1 by omega];exact hc
   obtain⟨k,a,b,e⟩:=h.leave (c l) (l+1) (p+d+1 - (l+1)) Oo d0 a7;exact⟨k,Oo,Oo,e⟩
 have V:=h.inv k Oo;have b7:=h.inv l Oo
 have d6:c k < c l:=by
  have K:=a2 k a5 b0;by_cases e:c k=c l
  ·exfalso;apply I k Oo;exact⟨r k,h.rlt k Oo,by rw[a6,e]⟩
  ·omega
 have e0:sm n (λj=>red m cost (T l) (B l) j*ray m (T k) (B k) (c k) j) < 0:=by
  rw[<-b7.cost_hom cost (V.hom_ray (h.clt k Oo)),V.ray_cost cost (h.clt k Oo)];exact h.neg k Oo
 have hex:∃j,j < n/\red m cost (T l) (B l) j*ray m (T k) (B k) (c k) j < 0:=by
  by_cases a3:∀j,j < n->0<=red m cost (T l) (B l) j*ray m (T k) (B k) (c k) j
  ·have:=sm_nonneg a3;grind
  ·have ⟨j,hj⟩:=Classical.not_forall.1 a3;have ⟨K,h2⟩:=Classical.not_imp.1 hj;exact⟨j,K,Rr⟩
 obtain⟨j,hj,M⟩:=hex;by_cases hb:InB m (B k) j
 ·obtain⟨i,hi,rfl⟩:=hb;have d7:B k i≠c k:=λe=>I k Oo ⟨i,hi,e⟩
  have O:ray m (T k) (B k) (c k) (B k i)=- T k i (c k):=by
   unfold ray;rw[if_neg d7,V.val_basic (λi=>- T k i (c k)) hi];grind
  rw[O]at M
  have b9:¬InB m (B l) (B k i):=by
   intro ⟨i',a8,e⟩;rw[<-e,b7.red_basic cost a8]at M;grind
  obtain⟨k',c7,c8,a4⟩:∃k',p<=k'/\k' < p+d+1/\c k'=B k i:=by
   by_cases hp:InB m (B p) (B k i)
   ·have K:=(same _).1 hp;rw[show p+d+1=l+(p+d+1 - l)by omega]at K;obtain⟨k',a,b,e⟩:=h.enter (B k i) l (p+d+1 - l) Oo b9 K;exact⟨k',Oo,Oo,e⟩
   ·have K:InB m (B (p+(k - p))) (B k i):=by rw[show p+(k - p)=k by omega];exact⟨i,hi,rfl⟩
    obtain⟨k',a,b,e⟩:=h.enter (B k i) p (k - p) Oo hp K;exact⟨k',Oo,Oo,e⟩
  have hle:=a2 k' c7 c8;rw[a4]at hle;by_cases het:B k i=c l
  ·have d8:i=r k:=V.inj hi (h.rlt k Oo) (by rw[a6,het]);have K:=h.pos k Oo;have h2:=h.neg l Oo;rw[het,d8]at M;have:=uF (Rat.le_of_lt h2) (show - T k (r k) (c k)<=0 by grind);grind
  ·have K:=h.least l Oo (B k i) Oo (by rw[<-a4];exact h.unbar k' Oo)
   have h2:0 < T k i (c k):=by
    by_cases e:0 < T k i (c k)
    ·exact e
    ·have:=Rat.mul_nonneg K (show 0<=- T k i (c k)by grind);grind
   have h3:T k i n=0:=by
    have e1:=U k a5 Oo (B k i);have e2:=U l c9 Oo (B k i);rw[V.val_basic (λi=>T k i n) hi]at e1;rw[val_not (λi' a8 e=>b9 ⟨i',a8,e⟩)]at e2;grind
   have h4:=hzero k a5 b0;have h5:=h.tie k Oo i hi h2 (by rw[h3,h4];grind);rw[a6]at h5;omega
 ·by_cases e:j=c k
  ·have K:=h.least l Oo (c k) d6 (h.unbar k Oo)
   have O:ray m (T k) (B k) (c k) j=1:=by
    unfold ray;rw[if_pos e,val_not (λi hi e'=>hb ⟨i,hi,e'⟩)];grind
   rw[O,e]at M;grind
  ·have O:ray m (T k) (B k) (c k) j=0:=by
    unfold ray;rw[if_neg e,val_not (λi hi e'=>hb ⟨i,hi,e'⟩)];grind
   rw[O]at M;grind
end
theorem V7:∀(N:Nat) (f:Nat->Nat),(∀k,k<=N->f k < N)->∃p q,p < q/\q<=N/\f p=f q
 |0,f,h=>absurd (h 0 Oo) Oo
 |N+1,f,h=>by
  by_cases hex:∃p,p<=N/\f p=f (N+1)
  ·obtain⟨p,K,M⟩:=hex;exact⟨p,N+1,Oo,Oo,M⟩
  ·have I:∀p,p<=N->f p≠f (N+1):=λp hp e=>hex ⟨p,hp,e⟩
   obtain⟨p,q,K,M,O⟩:=V7 N (λk=>if f k=N then f (N+1) else f k) (by
    intro k U;have K:=h k Oo;have M:=h (N+1) Oo;have O:=I k U;show(if f k=N then f (N+1) else f k) < N;split <;> omega)
   refine⟨p,q,K,Oo,?_⟩;have V:=I p Oo;have h5:=I q Oo;split at O <;> split at O <;> omega
def mask(s:Nat->Bool):Nat->Nat
 |0=>0
 |n+1=>mask s n+(if s n then 2 ^ n else 0)
theorem Qa(s:Nat->Bool):∀n,mask s n < 2 ^ n
 |0=>by show 0 < 1;omega
 |n+1=>by
  have:=Qa s n;show mask s n+(if s n then 2 ^ n else 0) < 2 ^ (n+1);rw[Nat.pow_succ];split <;> omega
theorem V8(s t:Nat->Bool):∀n,mask s n=mask t n->∀j,j < n->s j=t j
 |0,_,j,hj=>absurd hj Oo
 |n+1,h,j,hj=>by
  have M:=Qa s n;have O:=Qa t n;have I:mask s n+(if s n then 2 ^ n else 0)=mask t n+(if t n then 2 ^ n else 0):=h
  have K:s n=t n:=by
   cases hs:s n <;> cases ht:t n <;> simp[hs,ht]at I ⊢ <;> omega
  by_cases e:j=n
  ·rw[e];exact K
  ·rw[K]at I;exact V8 s t n Oo j Oo
theorem Run.bounded{m n:Nat}{A:Nat->Nat->Rat}{cost:Nat->Rat}{bar:Nat->Bool}{T:Nat->Nat->Nat->Rat}{B:Nat->Nat->Nat}{r c:Nat->Nat}(h:Run m n A cost bar (2 ^ n) T B r c):False:=by
 have dec:∀k j,Decidable (InB m (B k) j):=λk j=>Classical.propDecidable _;obtain⟨p,q,O,U,M⟩:=V7 (2 ^ n) (λk=>mask (λj=>@decide (InB m (B k) j) (dec k j)) n) (λk _=>Qa _ n);have key:=V8 _ _ n M;refine h.no_cycle p (q - p - 1) Oo (λj=>?_);rw[show p+(q - p - 1)+1=q by omega]
 have I:∀k,k<=2 ^ n->InB m (B k) j->j < n:=by
  intro k hk ⟨i,hi,e⟩;rw[<-e];exact(h.inv k hk).lt i hi
 constructor
 ·intro K;have:=key j (I p Oo K);have e:@decide (InB m (B p) j) (dec p j)=true:=by simpa using K
  rw[e]at this;simpa using this.symm
 ·intro K;have:=key j (I q Oo K);have e:@decide (InB m (B q) j) (dec q j)=true:=by simpa using K
  rw[e]at this;simpa using this
end Go.Proofs.YtkaipapdlnojiaaGreat.Cov
namespace Go.Proofs.YtkaipapdlnojiaaGreat.Cov
def first(p:Nat->Bool):Nat->Option Nat
 |0=>none
 |n+1=>match first p n with
  |some j=>some j
  |none=>if p n then some n else none
theorem uH{p:Nat->Bool}:∀{n:Nat},first p n=none->∀i,i < n->p i=false
 |0,_,i,hi=>absurd hi Oo
 |n+1,h,i,hi=>by
  unfold first at h;cases hf:first p n with
  |some I=>rw[hf]at h;cases h
  |none=>
   rw[hf]at h;simp only at h;split at h
   ·cases h
   ·rename_i hp;by_cases e:i=n
    ·rw[e];simpa using hp
    ·exact uH hf i Oo
theorem first_some{p:Nat->Bool}:∀{n j:Nat},first p n=some j->j < n/\p j=true/\∀i,i < j->p i=false
 |0,j,h=>by cases h
 |n+1,j,h=>by
  unfold first at h;cases hf:first p n with
  |some M=>
   rw[hf]at h;simp only[Option.some.injEq]at h;subst h;obtain⟨O,I,K⟩:=first_some hf;exact⟨Oo,I,K⟩
  |none=>
   rw[hf]at h;simp only at h;split at h
   ·rename_i hp;simp only[Option.some.injEq]at h;subst h;exact⟨Oo,hp,λi hi=>uH hf i hi⟩
   ·cases h
def best(good:Nat->Bool)(before:Nat->Nat->Bool):Nat->Option Nat
 |0=>none
 |m+1=>match best good before m with
  |none=>if good m then some m else none
  |some b=>if good m&&before m b then some m else some b
theorem kz{good:Nat->Bool}{before:Nat->Nat->Bool}:∀{m:Nat},best good before m=none->∀i,i < m->good i=false
 |0,_,i,hi=>absurd hi Oo
 |m+1,h,i,hi=>by
  unfold best at h;cases hb:best good before m with
  |none=>
   rw[hb]at h;simp only at h;split at h
   ·cases h
   ·rename_i hp;by_cases e:i=m
    ·rw[e];simpa using hp
    ·exact kz hb i Oo
  |some b=>
   rw[hb]at h;simp only at h;split at h <;> cases h
def before(T:Nat->Nat->Rat)(B:Nat->Nat)(n c i o:Nat):Bool:=
 if T i n / T i c=T o n / T o c then decide (B i < B o) else decide (T i n / T i c < T o n / T o c)
theorem best_some{T:Nat->Nat->Rat}{B:Nat->Nat}{n c:Nat}:∀{m r:Nat},best (λi=>decide (0 < T i c)) (before T B n c) m=some r->
 r < m/\0 < T r c/\∀i,i < m->0 < T i c->T r n / T r c<=T i n / T i c/\(T i n / T i c=T r n / T r c->B r<=B i)
 |0,r,h=>by cases h
 |m+1,r,h=>by
  unfold best at h;cases hb:best (λi=>decide (0 < T i c)) (before T B n c) m with
  |none=>
   rw[hb]at h;simp only at h;split at h
   ·rename_i hp;simp only[Option.some.injEq]at h;subst h;refine⟨Oo,by simpa using hp,λi hi I=>?_⟩;by_cases e:i=m
    ·subst e;exact⟨Rr,λ_=>bK _⟩
    ·have:=kz hb i Oo;simp at this;grind
   ·cases h
  |some b=>
   rw[hb]at h;obtain⟨h1,h2,V⟩:=best_some hb;simp only at h;split at h
   ·rename_i hp;simp only[Option.some.injEq]at h;subst h;simp only[Bool.and_eq_true,decide_eq_true_eq]at hp;obtain⟨p1,O⟩:=hp;unfold before at O;refine⟨Oo,p1,λi hi I=>?_⟩;by_cases e:i=m
    ·subst e;exact⟨Rr,λ_=>bK _⟩
    ·obtain⟨q1,q2⟩:=V i Oo I;split at O
     ·rename_i heq;have U:B m < B b:=by simpa using O
      refine⟨Rr,λM=>?_⟩;have:=q2 Rr;omega
     ·have U:T m n / T m c < T b n / T b c:=by simpa using O
      exact⟨Rr,λM=>Rr⟩
   ·rename_i hp;simp only[Option.some.injEq]at h;subst h;refine⟨Oo,h2,λi hi I=>?_⟩;by_cases e:i=m
    ·subst e
     have K:before T B n c i b=false:=by
      by_cases M:before T B n c i b=true
      ·exfalso;apply hp;rw[M];simpa using I
      ·simpa using M
     unfold before at K;split at K
     ·rename_i heq;have U:¬B i < B b:=by simpa using K
      exact⟨Rr,λ_=>Oo⟩
     ·have U:¬T i n / T i c < T b n / T b c:=by simpa using K
      exact⟨Rr,λM=>Rr⟩
    ·exact V i Oo I
structure Sx where
 T:Nat->Nat->Rat
 B:Nat->Nat
section
variable (m n:Nat) (cost:Nat->Rat) (bar:Nat->Bool)
def enterOf(s:Sx):Option Nat:=first (λj=>!bar j&&decide (red m cost s.T s.B j < 0)) n
def leaveOf(s:Sx)(c:Nat):Option Nat:=best (λi=>decide (0 < s.T i c)) (before s.T s.B n c) m
def stepOf(s:Sx):Option (Nat×Nat):=match enterOf m n cost bar s with
 |none=>none
 |some c=>match leaveOf m n s c with
  |none=>none
  |some r=>some (r,c)
def pivS(s:Sx)(r c:Nat):Sx:=⟨pivT s.T r c,pivB s.B r c⟩
def nxt(s:Sx):Sx:=match stepOf m n cost bar s with
 |none=>s
 |some (r,c)=>pivS s r c
def it(s:Sx):Nat->Sx
 |0=>s
 |k+1=>nxt m n cost bar (it s k)
end
theorem nxt_some{m n:Nat}{cost:Nat->Rat}{bar:Nat->Bool}{s:Sx}{rc:Nat×Nat}(h:stepOf m n cost bar s=some rc):nxt m n cost bar s=pivS s rc.1 rc.2:=by
 unfold nxt;rw[h]
theorem step_some{m n:Nat}{cost:Nat->Rat}{bar:Nat->Bool}{s:Sx}{r c:Nat}(h:stepOf m n cost bar s=some (r,c)):
 r < m/\c < n/\bar c=false/\red m cost s.T s.B c < 0/\(∀j,j < c->bar j=false->0<=red m cost s.T s.B j)/\0 < s.T r c/\
 ∀i,i < m->0 < s.T i c->s.T r n / s.T r c<=s.T i n / s.T i c/\(s.T i n / s.T i c=s.T r n / s.T r c->s.B r<=s.B i):=by
 unfold stepOf at h;cases he:enterOf m n cost bar s with
 |none=>rw[he]at h;cases h
 |some c'=>
  rw[he]at h;simp only at h;cases hl:leaveOf m n s c' with
  |none=>rw[hl]at h;cases h
  |some r'=>
   rw[hl]at h;simp only[Option.some.injEq,Prod.mk.injEq]at h;obtain⟨rfl,rfl⟩:=h;obtain⟨K,I,M⟩:=first_some he;obtain⟨O,U,V⟩:=best_some hl;simp only[Bool.and_eq_true,Bool.not_eq_true',decide_eq_true_eq]at I;refine⟨O,K,I.1,I.2,λj hj hb=>?_,U,V⟩;have:=M j hj;rw[hb]at this;simp at this;grind
theorem qAd{m n:Nat}{T:Nat->Nat->Rat}{r c:Nat}(hr:r < m)(K:∀i,i < m->0<=T i n)(hp:0 < T r c)
 (I:∀i,i < m->0 < T i c->T r n / T r c<=T i n / T i c):∀i,i < m->0<=pivT T r c i n:=by
 intro i hi;have M:=jy (K r hr) hp;unfold pivT;split
 ·exact M
 ·by_cases e:0 < T i c
  ·have O:=I i hi e
   have U:T i c*(T r n / T r c)<=T i c*(T i n / T i c):=by
    have:=Rat.mul_nonneg (Rat.le_of_lt e) (show 0<=T i n / T i c - T r n / T r c by grind);grind
   have V:T i c*(T i n / T i c)=T i n:=Rr;grind
  ·have O:=vu (show T i c<=0 by grind) M;have U:=K i hi;grind
structure Good(m n:Nat)(A:Nat->Nat->Rat)(bar:Nat->Bool)(s:Sx):Prop where
 inv:Inv m n A s.T s.B
 feas:∀i,i < m->0<=s.T i n
 open':∀i,i < m->bar (s.B i)=false
theorem Good.step{m n:Nat}{A:Nat->Nat->Rat}{bar:Nat->Bool}{cost:Nat->Rat}{s:Sx}(h:Good m n A bar s){r c:Nat}(hs:stepOf m n cost bar s=some (r,c)):Good m n A bar (pivS s r c):=by
 obtain⟨I,K,M,V,h5,O,U⟩:=step_some hs;refine⟨h.inv.pivot I K Rr,qAd I h.feas O (λi hi hp=>(U i hi hp).1),λi hi=>?_⟩;show bar (pivB s.B r c i)=false;unfold pivB;split
 ·exact M
 ·exact h.open' i hi
theorem Good.nxt{m n:Nat}{A:Nat->Nat->Rat}{bar:Nat->Bool}{cost:Nat->Rat}{s:Sx}(h:Good m n A bar s):Good m n A bar (nxt m n cost bar s):=by
 unfold Cov.nxt;split
 ·exact h
 ·rename_i r c hs;exact h.step hs
theorem Good.it{m n:Nat}{A:Nat->Nat->Rat}{bar:Nat->Bool}{cost:Nat->Rat}{s:Sx}(h:Good m n A bar s):∀k,Good m n A bar (it m n cost bar s k)
 |0=>h
 |k+1=>(Good.it h k).nxt
theorem halts{m n:Nat}{A:Nat->Nat->Rat}{bar:Nat->Bool}(cost:Nat->Rat){s:Sx}(h:Good m n A bar s):
 ∃k,stepOf m n cost bar (it m n cost bar s k)=none/\∀M,M < k->stepOf m n cost bar (it m n cost bar s M)≠none:=by
 have hex:∃k,stepOf m n cost bar (it m n cost bar s k)=none:=by
  by_cases hn:∃k,stepOf m n cost bar (it m n cost bar s k)=none
  ·exact hn
  ·exfalso
   have I:∀k,∃rc:Nat×Nat,stepOf m n cost bar (it m n cost bar s k)=some rc:=by
    intro k;cases hs:stepOf m n cost bar (it m n cost bar s k)with
    |none=>exact absurd ⟨k,hs⟩ hn
    |some rc=>exact⟨rc,rfl⟩
   have O:=λk=>Classical.choose_spec (I k);refine Run.bounded (m:=m) (n:=n) (A:=A) (cost:=cost) (bar:=bar) (T:=λk=>(it m n cost bar s k).T) (B:=λk=>(it m n cost bar s k).B) (r:=λk=>(Classical.choose (I k)).1) (c:=λk=>(Classical.choose (I k)).2) ?_;have K:=λk=>step_some (r:=(Classical.choose (I k)).1) (c:=(Classical.choose (I k)).2) (O k)
   have U:∀k,it m n cost bar s (k+1)=pivS (it m n cost bar s k) (Classical.choose (I k)).1 (Classical.choose (I k)).2:=by
    intro k;exact nxt_some (O k)
   exact {
    inv:=λk _=>(h.it k).inv
    feas:=λk _=>(h.it k).feas
    rlt:=λk _=>(K k).1
    clt:=λk _=>(K k).2.1
    unbar:=λk _=>(K k).2.2.1
    neg:=λk _=>(K k).2.2.2.1
    least:=λk _=>(K k).2.2.2.2.1
    pos:=λk _=>(K k).2.2.2.2.2.1
    tie:=λk _ i hi hp he=>((K k).2.2.2.2.2.2 i hi hp).2 he
    nextT:=λk _=>by rw[U k];rfl
    nextB:=λk _=>by rw[U k];rfl }
 obtain⟨k,hk⟩:=hex;induction k using Nat.strongRecOn with
 |ind k ih=>
  by_cases V:∃M,M < k/\stepOf m n cost bar (it m n cost bar s M)=none
  ·obtain⟨M,h1,h2⟩:=V;exact ih M h1 h2
  ·exact⟨k,hk,λM h1 h2=>V ⟨M,h1,h2⟩⟩
def F(m n:Nat)(A:Nat->Nat->Rat)(bar:Nat->Bool)(x:Nat->Rat):Prop:=Sol m n A x/\(∀j,j < n->0<=x j)/\(∀j,j < n->bar j=true->x j=0)
def xb(m n:Nat)(s:Sx):Nat->Rat:=val m (λi=>s.T i n) s.B
def dot(n:Nat)(cost x:Nat->Rat):Rat:=sm n (λj=>cost j*x j)
theorem qFZ{m n:Nat}{A:Nat->Nat->Rat}{s:Sx}(h:Inv m n A s.T s.B)(cost:Nat->Rat):dot n cost (xb m n s)=obj m n cost s.T s.B:=by
 rw[XX h cost];exact sm_congr (λj _=>by unfold xb;grind)
theorem Zr{m:Nat}{t:Nat->Rat}{B:Nat->Nat}(h:∀i,i < m->0<=t i)(j:Nat):0<=val m t B j:=by
 refine sm_nonneg (λi hi=>?_);split
 ·exact h i hi
 ·grind
theorem Good.xb_mem{m n:Nat}{A:Nat->Nat->Rat}{bar:Nat->Bool}{s:Sx}(h:Good m n A bar s):F m n A bar (xb m n s):=by
 refine⟨h.inv.sol_basic,λj _=>Zr h.feas j,λj _ hb=>?_⟩;refine val_not (λi hi e=>?_);have:=h.open' i hi;rw[e,hb]at this;cases this
def narrowed(m n:Nat)(cost:Nat->Rat)(bar:Nat->Bool)(s:Sx):Nat->Bool:=λj=>bar j||(decide (j < n)&&decide (0 < red m cost s.T s.B j))
theorem qBn{m n:Nat}{A:Nat->Nat->Rat}{bar:Nat->Bool}{cost:Nat->Rat}{s:Sx}(h:Good m n A bar s)(hs:stepOf m n cost bar s=none)
 (L:Rat) (hL:∀x,F m n A bar x->L<=dot n cost x):∀j,j < n->bar j=false->0<=red m cost s.T s.B j:=by
 unfold stepOf at hs;cases he:enterOf m n cost bar s with
 |none=>
  intro j K hb;have:=uH he j K;rw[hb]at this;simp at this;grind
 |some c=>
  exfalso;rw[he]at hs;simp only at hs;obtain⟨h1,h2,h3⟩:=first_some he;simp only[Bool.and_eq_true,Bool.not_eq_true',decide_eq_true_eq]at h2;obtain⟨hb,a3⟩:=h2
  have M:∀i,i < m->s.T i c<=0:=by
   intro i hi;cases hl:leaveOf m n s c with
   |none=>
    have:=kz hl i hi;simp at this;grind
   |some r=>rw[hl]at hs;cases hs
  have O:∀j,0<=ray m s.T s.B c j:=by
   intro j;unfold ray;have:=Zr (B:=s.B) (t:=λi=>- s.T i c) (m:=m) (λi hi=>by have:=M i hi;grind) j;split <;> grind
  have hF:∀t:Rat,0<=t->F m n A bar (λj=>xb m n s j+t*ray m s.T s.B c j):=by
   intro t V;obtain⟨k1,k2,k3⟩:=h.xb_mem;refine⟨λq hq=>?_,λj K=>?_,λj K I=>?_⟩
   ·have e:(λj=>(xb m n s j+t*ray m s.T s.B c j)*A j q)=λj=>xb m n s j*A j q+t*(ray m s.T s.B c j*A j q):=by funext j;grind
    rw[e,sm_add,sm_mul,k1 q hq,h.inv.hom_ray h1 q hq];grind
   ·have a1:=k2 j K;have a2:=Rat.mul_nonneg V (O j);grind
   ·have a1:=k3 j K I
    have a2:ray m s.T s.B c j=0:=by
     unfold ray;rw[if_neg (λe=>by rw[e,hb]at I;cases I),val_not (λi hi e=>by have:=h.open' i hi;rw[e,I]at this;cases this)];grind
    show xb m n s j+t*ray m s.T s.B c j=0;rw[a1,a2];grind
  have U:∀t:Rat,dot n cost (λj=>xb m n s j+t*ray m s.T s.B c j)=dot n cost (xb m n s)+t*red m cost s.T s.B c:=by
   intro t;unfold dot;have e:(λj=>cost j*(xb m n s j+t*ray m s.T s.B c j))=λj=>cost j*xb m n s j+t*(cost j*ray m s.T s.B c j):=by funext j;grind
   rw[e,sm_add,sm_mul,h.inv.ray_cost cost h1]
  have a4:=hL _ h.xb_mem;have V:0<=(dot n cost (xb m n s) - L+1) / (- red m cost s.T s.B c):=jy Rr Rr;have h5:=hL _ (hF _ V);rw[U]at h5;have h6:(dot n cost (xb m n s) - L+1) / (- red m cost s.T s.B c)*red m cost s.T s.B c=-(dot n cost (xb m n s) - L+1):=Rr;grind
theorem phase{m n:Nat}{A:Nat->Nat->Rat}{bar:Nat->Bool}{cost:Nat->Rat}{s:Sx}(h:Good m n A bar s)(hs:stepOf m n cost bar s=none)
 (L:Rat) (hL:∀x,F m n A bar x->L<=dot n cost x):
 Good m n A (narrowed m n cost bar s) s/\(∀x,F m n A (narrowed m n cost bar s) x->F m n A bar x/\dot n cost x=dot n cost (xb m n s))/\
 (∀x,F m n A bar x->dot n cost (xb m n s)<=dot n cost x/\(dot n cost x<=dot n cost (xb m n s)->F m n A (narrowed m n cost bar s) x)):=by
 have K:=qBn h hs L hL
 have M:∀x,F m n A bar x->dot n cost x=sm n (λj=>red m cost s.T s.B j*x j)+dot n cost (xb m n s):=by
  intro x I;rw[qFZ h.inv cost];exact h.inv.cost_sol cost I.1
 have O:∀x,F m n A bar x->∀j,j < n->0<=red m cost s.T s.B j*x j:=by
  intro x I j U;cases hb:bar j with
  |false=>exact Rat.mul_nonneg (K j U hb) (I.2.1 j U)
  |true=>rw[I.2.2 j U hb];grind
 refine⟨⟨h.inv,h.feas,λi hi=>?_⟩,λx I=>?_,λx I=>?_⟩
 ·unfold narrowed;rw[h.open' i hi,h.inv.red_basic cost hi];simp
 ·have a2:F m n A bar x:=⟨I.1,I.2.1,λj U hb=>I.2.2 j U (by unfold narrowed;rw[hb];rfl)⟩;refine⟨a2,?_⟩;rw[M x a2,sm_zero]
  ·grind
  ·intro j U;cases V:narrowed m n cost bar s j with
   |true=>rw[I.2.2 j U V];grind
   |false=>
    unfold narrowed at V;simp only[Bool.or_eq_false_iff,Bool.and_eq_false_iff,decide_eq_false_iff_not]at V;obtain⟨n1,n2⟩:=V;have:=K j U n1
    have h0:red m cost s.T s.B j=0:=by
     rcases n2 with n2|n2
     ·omega
     ·grind
    rw[h0];grind
 ·have h1:=M x I;have h2:=sm_nonneg (O x I);refine⟨Rr,λhle=>⟨I.1,I.2.1,λj U V=>?_⟩⟩;have h3:=jf (O x I) Rr j U;unfold narrowed at V;simp only[Bool.or_eq_true,Bool.and_eq_true,decide_eq_true_eq]at V;rcases V with V|⟨_,V⟩
  ·exact I.2.2 j U V
  ·rcases Rat.mul_eq_zero.1 h3 with e|e
   ·grind
   ·exact e
end Go.Proofs.YtkaipapdlnojiaaGreat.Cov
