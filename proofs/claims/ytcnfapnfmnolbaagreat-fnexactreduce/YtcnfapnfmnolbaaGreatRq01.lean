import Derived.Test.YtcnfapnfmnolbaaGreatRq00
set_option maxHeartbeats 40000000
set_option maxRecDepth 1000000
namespace Go.Proofs.YtcnfapnfmnolbaaGreat.Cov
def first(p:Nat->Bool):Nat->Option Nat
 |0=>none
 |n+1=>match first p n with
  |some j=>some j
  |none=>if p n then some n else none
theorem uv{p:Nat->Bool}:∀{n:Nat},first p n=none->∀i,i<n->p i=false
 |0,_,i,hi=>absurd hi Oo
 |n+1,h,i,hi=>by
  unfold first at h;cases hf:first p n with
  |some I=>rw[hf]at h;cases h
  |none=>
   rw[hf]at h;simp only at h;split at h;cases h
   rename_i hp;by_cases e:i=n;rw[e];simpa using hp;exact uv hf i Oo
theorem first_some{p:Nat->Bool}:∀{n j:Nat},first p n=some j->j<n/\p j=true/\∀i,i<j->p i=false
 |0,j,h=>by cases h
 |n+1,j,h=>by
  unfold first at h;cases hf:first p n with
  |some M=>
   rw[hf]at h;simp only[Option.some.injEq]at h;subst h;obtain⟨O,I,K⟩:=first_some hf;exact⟨Oo,I,K⟩
  |none=>
   rw[hf]at h;simp only at h;split at h
   ·rename_i hp;simp only[Option.some.injEq]at h;subst h;exact⟨Oo,hp,λi hi=>uv hf i hi⟩
   cases h
def best(good:Nat->Bool)(before:Nat->Nat->Bool):Nat->Option Nat
 |0=>none
 |m+1=>match best good before m with
  |none=>if good m then some m else none
  |some b=>if good m&&before m b then some m else some b
theorem Qh{good:Nat->Bool}{before:Nat->Nat->Bool}:∀{m:Nat},best good before m=none->∀i,i<m->good i=false
 |0,_,i,hi=>absurd hi Oo
 |m+1,h,i,hi=>by
  unfold best at h;cases hb:best good before m with
  |none=>
   rw[hb]at h;simp only at h;split at h;cases h
   rename_i hp;by_cases e:i=m;rw[e];simpa using hp;exact Qh hb i Oo
  |some b=>
   rw[hb]at h;simp only at h;split at h <;> cases h
def before(T:Nat->Nat->Rat)(B:Nat->Nat)(n c i o:Nat):Bool:=
 if T i n / T i c=T o n / T o c then decide (B i<B o) else decide (T i n / T i c<T o n / T o c)
theorem best_some{T:Nat->Nat->Rat}{B:Nat->Nat}{n c:Nat}:∀{m r:Nat},best (λi=>decide (0<T i c)) (before T B n c) m=some r->
 r<m/\0<T r c/\∀i,i<m->0<T i c->T r n / T r c<=T i n / T i c/\(T i n / T i c=T r n / T r c->B r<=B i)
 |0,r,h=>by cases h
 |m+1,r,h=>by
  unfold best at h;cases hb:best (λi=>decide (0<T i c)) (before T B n c) m with
  |none=>
   rw[hb]at h;simp only at h;split at h
   ·rename_i hp;simp only[Option.some.injEq]at h;subst h;refine⟨Oo,by simpa using hp,λi hi I=>?_⟩;by_cases e:i=m;subst e;exact⟨Rr,λ_=>nR _⟩;have:=Qh hb i Oo;simp at this;grind
   cases h
  |some b=>
   rw[hb]at h;obtain⟨h1,h2,V⟩:=best_some hb;simp only at h;split at h
   ·rename_i hp;simp only[Option.some.injEq]at h;subst h;simp only[Bool.and_eq_true,decide_eq_true_eq]at hp;obtain⟨p1,O⟩:=hp;unfold before at O;refine⟨Oo,p1,λi hi I=>?_⟩;by_cases e:i=m;subst e;exact⟨Rr,λ_=>nR _⟩;obtain⟨q1,q2⟩:=V i Oo I;split at O
    ·rename_i heq;have U:B m<B b:=by simpa using O
     refine⟨Rr,λM=>?_⟩;have:=q2 Rr;omega
    have U:T m n / T m c<T b n / T b c:=by simpa using O
    exact⟨Rr,λM=>Rr⟩
   rename_i hp;simp only[Option.some.injEq]at h;subst h;refine⟨Oo,h2,λi hi I=>?_⟩;by_cases e:i=m
   ·subst e;have K:before T B n c i b=false:=by
     by_cases M:before T B n c i b=true;exfalso;apply hp;rw[M];simpa using I;simpa using M
    unfold before at K;split at K
    ·rename_i heq;have U:¬B i<B b:=by simpa using K
     exact⟨Rr,λ_=>Oo⟩
    have U:¬T i n / T i c<T b n / T b c:=by simpa using K
    exact⟨Rr,λM=>Rr⟩
   exact V i Oo I
structure Sx where
 T:Nat->Nat->Rat
 B:Nat->Nat
section
variable (m n:Nat) (cost:Nat->Rat) (bar:Nat->Bool)
def enterOf(s:Sx):Option Nat:=first (λj=>!bar j&&decide (red m cost s.T s.B j<0)) n
def leaveOf(s:Sx)(c:Nat):Option Nat:=best (λi=>decide (0<s.T i c)) (before s.T s.B n c) m
def stepOf(s:Sx):Option (Nat×Nat):=match enterOf m n cost bar s with
 |none=>none
 |some c=>match leaveOf m n s c with
  |none=>none
  |some r=>some (r,c)
def pivS(s:Sx)(r c:Nat):Sx:=⟨pivT s.T r c,pivB s.B r c⟩
def nxt(s:Sx):Sx:=match stepOf m n cost bar s with
 |none=>s
 |some (r,c)=>pivS s r c
def it(s:Sx):Nat->Sx
 |0=>s
 |k+1=>nxt m n cost bar (it s k)
end
theorem nxt_some{m n:Nat}{cost:Nat->Rat}{bar:Nat->Bool}{s:Sx}{rc:Nat×Nat}(h:stepOf m n cost bar s=some rc):nxt m n cost bar s=pivS s rc.1 rc.2:=by
 unfold nxt;rw[h]
theorem step_some{m n:Nat}{cost:Nat->Rat}{bar:Nat->Bool}{s:Sx}{r c:Nat}(h:stepOf m n cost bar s=some (r,c)):
 r<m/\c<n/\bar c=false/\red m cost s.T s.B c<0/\(∀j,j<c->bar j=false->0<=red m cost s.T s.B j)/\0<s.T r c/\
 ∀i,i<m->0<s.T i c->s.T r n / s.T r c<=s.T i n / s.T i c/\(s.T i n / s.T i c=s.T r n / s.T r c->s.B r<=s.B i):=by
 unfold stepOf at h;cases he:enterOf m n cost bar s with
 |none=>rw[he]at h;cases h
 |some c'=>
  rw[he]at h;simp only at h;cases hl:leaveOf m n s c' with
  |none=>rw[hl]at h;cases h
  |some r'=>
   rw[hl]at h;simp only[Option.some.injEq,Prod.mk.injEq]at h;obtain⟨rfl,rfl⟩:=h;obtain⟨K,I,M⟩:=first_some he;obtain⟨O,U,V⟩:=best_some hl;simp only[Bool.and_eq_true,Bool.not_eq_true',decide_eq_true_eq]at I;refine⟨O,K,I.1,I.2,λj hj hb=>?_,U,V⟩;have:=M j hj;rw[hb]at this;simp at this;grind
theorem qBk{m n:Nat}{T:Nat->Nat->Rat}{r c:Nat}(O:r<m)(K:∀i,i<m->0<=T i n)(U:0<T r c)
 (I:∀i,i<m->0<T i c->T r n / T r c<=T i n / T i c):∀i,i<m->0<=pivT T r c i n:=by
 intro i hi;have M:=kT (K r O) U;unfold pivT;split;exact M;by_cases e:0<T i c
 ·have V:=I i hi e;have h2:T i c*(T r n / T r c)<=T i c*(T i n / T i c):=by
   have:=Rat.mul_nonneg (Rat.le_of_lt e) (show 0<=T i n / T i c-T r n / T r c by grind);grind
  have h3:T i c*(T i n / T i c)=T i n:=Rr;grind
 have V:=uc (show T i c<=0 by grind) M;have h2:=K i hi;grind
structure Good(m n:Nat)(A:Nat->Nat->Rat)(bar:Nat->Bool)(s:Sx):Prop where
 inv:Inv m n A s.T s.B
 feas:∀i,i<m->0<=s.T i n
 open':∀i,i<m->bar (s.B i)=false
theorem Good.step{m n:Nat}{A:Nat->Nat->Rat}{bar:Nat->Bool}{cost:Nat->Rat}{s:Sx}(h:Good m n A bar s){r c:Nat}(hs:stepOf m n cost bar s=some (r,c)):Good m n A bar (pivS s r c):=by
 obtain⟨I,K,M,h4,h5,O,U⟩:=step_some hs;refine⟨h.inv.pivot I K Rr,qBk I h.feas O (λi hi V=>(U i hi V).1),λi hi=>?_⟩;show bar (pivB s.B r c i)=false;unfold pivB;split;exact M;exact h.open' i hi
theorem Good.nxt{m n:Nat}{A:Nat->Nat->Rat}{bar:Nat->Bool}{cost:Nat->Rat}{s:Sx}(h:Good m n A bar s):Good m n A bar (nxt m n cost bar s):=by
 unfold Cov.nxt;split;exact h;rename_i r c hs;exact h.step hs
theorem Good.it{m n:Nat}{A:Nat->Nat->Rat}{bar:Nat->Bool}{cost:Nat->Rat}{s:Sx}(h:Good m n A bar s):∀k,Good m n A bar (it m n cost bar s k)
 |0=>h
 |k+1=>(Good.it h k).nxt
theorem halts{m n:Nat}{A:Nat->Nat->Rat}{bar:Nat->Bool}(cost:Nat->Rat){s:Sx}(h:Good m n A bar s):
 ∃k,stepOf m n cost bar (it m n cost bar s k)=none/\∀M,M<k->stepOf m n cost bar (it m n cost bar s M)≠none:=by
 have hex:∃k,stepOf m n cost bar (it m n cost bar s k)=none:=by
  by_cases hn:∃k,stepOf m n cost bar (it m n cost bar s k)=none;exact hn;exfalso;have I:∀k,∃rc:Nat×Nat,stepOf m n cost bar (it m n cost bar s k)=some rc:=by
   intro k;cases hs:stepOf m n cost bar (it m n cost bar s k)with
   |none=>exact absurd ⟨k,hs⟩ hn
   |some rc=>exact⟨rc,rfl⟩
  have O:=λk=>Classical.choose_spec (I k);refine Run.bounded (m:=m) (n:=n) (A:=A) (cost:=cost) (bar:=bar) (T:=λk=>(it m n cost bar s k).T) (B:=λk=>(it m n cost bar s k).B) (r:=λk=>(Classical.choose (I k)).1) (c:=λk=>(Classical.choose (I k)).2) ?_;have K:=λk=>step_some (r:=(Classical.choose (I k)).1) (c:=(Classical.choose (I k)).2) (O k);have U:∀k,it m n cost bar s (k+1)=pivS (it m n cost bar s k) (Classical.choose (I k)).1 (Classical.choose (I k)).2:=by
   intro k;exact nxt_some (O k)
  exact {
   inv:=λk _=>(h.it k).inv
   feas:=λk _=>(h.it k).feas
   rlt:=λk _=>(K k).1
   clt:=λk _=>(K k).2.1
   unbar:=λk _=>(K k).2.2.1
   neg:=λk _=>(K k).2.2.2.1
   least:=λk _=>(K k).2.2.2.2.1
   pos:=λk _=>(K k).2.2.2.2.2.1
   tie:=λk _ i hi hp he=>((K k).2.2.2.2.2.2 i hi hp).2 he
   nextT:=λk _=>by rw[U k];rfl
   nextB:=λk _=>by rw[U k];rfl }
 obtain⟨k,hk⟩:=hex;induction k using Nat.strongRecOn with
 |ind k ih=>
  by_cases V:∃M,M<k/\stepOf m n cost bar (it m n cost bar s M)=none;obtain⟨M,h1,h2⟩:=V;exact ih M h1 h2;exact⟨k,hk,λM h1 h2=>V ⟨M,h1,h2⟩⟩
def F(m n:Nat)(A:Nat->Nat->Rat)(bar:Nat->Bool)(x:Nat->Rat):Prop:=Sol m n A x/\(∀j,j<n->0<=x j)/\(∀j,j<n->bar j=true->x j=0)
def xb(m n:Nat)(s:Sx):Nat->Rat:=val m (λi=>s.T i n) s.B
def dot(n:Nat)(cost x:Nat->Rat):Rat:=sm n (λj=>cost j*x j)
theorem qGR{m n:Nat}{A:Nat->Nat->Rat}{s:Sx}(h:Inv m n A s.T s.B)(cost:Nat->Rat):dot n cost (xb m n s)=obj m n cost s.T s.B:=by
 rw[Yj h cost];exact sm_congr (λj _=>by unfold xb;grind)
theorem Xq{m:Nat}{t:Nat->Rat}{B:Nat->Nat}(h:∀i,i<m->0<=t i)(j:Nat):0<=val m t B j:=by
 refine zn (λi hi=>?_);split;exact h i hi;grind
theorem Good.xb_mem{m n:Nat}{A:Nat->Nat->Rat}{bar:Nat->Bool}{s:Sx}(h:Good m n A bar s):F m n A bar (xb m n s):=by
 refine⟨h.inv.sol_basic,λj _=>Xq h.feas j,λj _ hb=>?_⟩;refine val_not (λi hi e=>?_);have:=h.open' i hi;rw[e,hb]at this;cases this
def narrowed(m n:Nat)(cost:Nat->Rat)(bar:Nat->Bool)(s:Sx):Nat->Bool:=λj=>bar j||(decide (j<n)&&decide (0<red m cost s.T s.B j))
theorem qCe{m n:Nat}{A:Nat->Nat->Rat}{bar:Nat->Bool}{cost:Nat->Rat}{s:Sx}(h:Good m n A bar s)(hs:stepOf m n cost bar s=none)
 (L:Rat) (hL:∀x,F m n A bar x->L<=dot n cost x):∀j,j<n->bar j=false->0<=red m cost s.T s.B j:=by
 unfold stepOf at hs;cases he:enterOf m n cost bar s with
 |none=>
  intro j K hb;have:=uv he j K;rw[hb]at this;simp at this;grind
 |some c=>
  exfalso;rw[he]at hs;simp only at hs;obtain⟨h1,h2,h3⟩:=first_some he;simp only[Bool.and_eq_true,Bool.not_eq_true',decide_eq_true_eq]at h2;obtain⟨hb,a3⟩:=h2;have M:∀i,i<m->s.T i c<=0:=by
   intro i hi;cases hl:leaveOf m n s c with
   |none=>
    have:=Qh hl i hi;simp at this;grind
   |some r=>rw[hl]at hs;cases hs
  have O:∀j,0<=ray m s.T s.B c j:=by
   intro j;unfold ray;have:=Xq (B:=s.B) (t:=λi=>- s.T i c) (m:=m) (λi hi=>by have:=M i hi;grind) j;split <;> grind
  have hF:∀t:Rat,0<=t->F m n A bar (λj=>xb m n s j+t*ray m s.T s.B c j):=by
   intro t V;obtain⟨k1,k2,k3⟩:=h.xb_mem;refine⟨λq hq=>?_,λj K=>?_,λj K I=>?_⟩
   ·have e:(λj=>(xb m n s j+t*ray m s.T s.B c j)*A j q)=λj=>xb m n s j*A j q+t*(ray m s.T s.B c j*A j q):=by funext j;grind
    rw[e,sm_add,sm_mul,k1 q hq,h.inv.hom_ray h1 q hq];grind
   have a1:=k2 j K;have a2:=Rat.mul_nonneg V (O j);grind;have a1:=k3 j K I;have a2:ray m s.T s.B c j=0:=by
    unfold ray;rw[if_neg (λe=>by rw[e,hb]at I;cases I),val_not (λi hi e=>by have:=h.open' i hi;rw[e,I]at this;cases this)];grind
   show xb m n s j+t*ray m s.T s.B c j=0;rw[a1,a2];grind
  have U:∀t:Rat,dot n cost (λj=>xb m n s j+t*ray m s.T s.B c j)=dot n cost (xb m n s)+t*red m cost s.T s.B c:=by
   intro t;unfold dot;have e:(λj=>cost j*(xb m n s j+t*ray m s.T s.B c j))=λj=>cost j*xb m n s j+t*(cost j*ray m s.T s.B c j):=by funext j;grind
   rw[e,sm_add,sm_mul,h.inv.ray_cost cost h1]
  have a4:=hL _ h.xb_mem;have V:0<=(dot n cost (xb m n s)-L+1) / (- red m cost s.T s.B c):=kT Rr Rr;have h5:=hL _ (hF _ V);rw[U]at h5;have h6:(dot n cost (xb m n s)-L+1) / (- red m cost s.T s.B c)*red m cost s.T s.B c=-(dot n cost (xb m n s)-L+1):=Rr;grind
theorem phase{m n:Nat}{A:Nat->Nat->Rat}{bar:Nat->Bool}{cost:Nat->Rat}{s:Sx}(h:Good m n A bar s)(hs:stepOf m n cost bar s=none)
 (L:Rat) (hL:∀x,F m n A bar x->L<=dot n cost x):
 Good m n A (narrowed m n cost bar s) s/\(∀x,F m n A (narrowed m n cost bar s) x->F m n A bar x/\dot n cost x=dot n cost (xb m n s))/\
 (∀x,F m n A bar x->dot n cost (xb m n s)<=dot n cost x/\(dot n cost x<=dot n cost (xb m n s)->F m n A (narrowed m n cost bar s) x)):=by
 have K:=qCe h hs L hL;have M:∀x,F m n A bar x->dot n cost x=sm n (λj=>red m cost s.T s.B j*x j)+dot n cost (xb m n s):=by
  intro x I;rw[qGR h.inv cost];exact h.inv.cost_sol cost I.1
 have O:∀x,F m n A bar x->∀j,j<n->0<=red m cost s.T s.B j*x j:=by
  intro x I j U;cases hb:bar j with
  |false=>exact Rat.mul_nonneg (K j U hb) (I.2.1 j U)
  |true=>rw[I.2.2 j U hb];grind
 refine⟨⟨h.inv,h.feas,λi hi=>?_⟩,λx I=>?_,λx I=>?_⟩;unfold narrowed;rw[h.open' i hi,h.inv.red_basic cost hi];simp
 ·have a3:F m n A bar x:=⟨I.1,I.2.1,λj U hb=>I.2.2 j U (by unfold narrowed;rw[hb];rfl)⟩;refine⟨a3,?_⟩;rw[M x a3,sm_zero];grind;intro j U;cases V:narrowed m n cost bar s j with
  |true=>rw[I.2.2 j U V];grind
  |false=>
   unfold narrowed at V;simp only[Bool.or_eq_false_iff,Bool.and_eq_false_iff,decide_eq_false_iff_not]at V;obtain⟨n1,n2⟩:=V;have:=K j U n1;have h0:red m cost s.T s.B j=0:=by
    rcases n2 with n2|n2;omega;grind
   rw[h0];grind
 have h1:=M x I;have h2:=zn (O x I);refine⟨Rr,λhle=>⟨I.1,I.2.1,λj U V=>?_⟩⟩;have h3:=j7 (O x I) Rr j U;unfold narrowed at V;simp only[Bool.or_eq_true,Bool.and_eq_true,decide_eq_true_eq]at V;rcases V with V|⟨_,V⟩;exact I.2.2 j U V;rcases Rat.mul_eq_zero.1 h3 with e|e;grind;exact e
end Go.Proofs.YtcnfapnfmnolbaaGreat.Cov
namespace Go.Proofs.YtcnfapnfmnolbaaGreat.Cov
def Lex:List Rat->List Rat->Prop
 |a::l,b::r=>a<b∨(a=b/\Lex l r)
 |[],[]=>True
 |_,_=>False
theorem Lex.antisymm:∀{l r:List Rat},Lex l r->Lex r l->l=r
 |[],[],_,_=>rfl
 |[],_::_,h,_=>h.elim
 |_::_,[],h,_=>h.elim
 |a::l,b::r,I,K=>by
  rcases I with I|⟨I,M⟩ <;> rcases K with K|⟨K,O⟩;exfalso;grind;exfalso;grind;exfalso;grind;rw[I,Lex.antisymm M O]
def Aim(m n:Nat)(cost:Nat->Rat)(bar:Nat->Bool)(s:Sx)(bar':Nat->Bool)(s':Sx):Prop:=
 ∃k,stepOf m n cost bar (it m n cost bar s k)=none/\(∀k',k'<k->stepOf m n cost bar (it m n cost bar s k')≠none)/\s'=it m n cost bar s k/\bar'=narrowed m n cost bar s'
def Aims(m n:Nat):List (Nat->Rat)->(Nat->Bool)->Sx->(Nat->Bool)->Sx->Prop
 |[],bar,s,bar',s'=>bar'=bar/\s'=s
 |c::l,bar,s,bar',s'=>∃b1 s1,Aim m n c bar s b1 s1/\Aims m n l b1 s1 bar' s'
theorem Good.aim{m n:Nat}{A:Nat->Nat->Rat}{cost:Nat->Rat}{bar I:Nat->Bool}{s K:Sx}(h:Good m n A bar s)(U:Aim m n cost bar s I K)
 (L:Rat) (V:∀x,F m n A bar x->L<=dot n cost x):
 Good m n A I K/\(∀x,F m n A I x->F m n A bar x/\dot n cost x=dot n cost (xb m n K))/\
 (∀x,F m n A bar x->dot n cost (xb m n K)<=dot n cost x/\(dot n cost x<=dot n cost (xb m n K)->F m n A I x)):=by
 obtain⟨k,M,_,O,h4⟩:=U;subst h4;rw[<-O]at M;have hg:Good m n A bar K:=by rw[O];exact h.it k
 exact phase hg M L V
theorem Good.aims{m n:Nat}{A:Nat->Nat->Rat}:∀{l:List (Nat->Rat)} {bar I:Nat->Bool} {s K:Sx},Good m n A bar s->Aims m n l bar s I K->
 (∀c∈l,∃L:Rat,∀x,F m n A bar x->L<=dot n c x)->
 Good m n A I K/\(∀x,F m n A I x->F m n A bar x)/\∀x,F m n A bar x->Lex (l.map λc=>dot n c (xb m n K)) (l.map λc=>dot n c x)
 |[],bar,I,s,K,hg,ha,_=>by
  obtain⟨rfl,rfl⟩:=ha;exact⟨hg,λ_ M=>M,λ_ _=>trivial⟩
 |c::l,bar,I,s,K,hg,ha,hb=>by
  obtain⟨b1,s1,h1,h2⟩:=ha;obtain⟨L,hL⟩:=hb c (List.mem_cons_self);obtain⟨g1,g2,g3⟩:=hg.aim h1 L hL;obtain⟨V,k2,k3⟩:=Good.aims g1 h2 (λc' O=>by
   obtain⟨L',U⟩:=hb c' (mC _ O);exact⟨L',λx M=>U x (g2 x M).1⟩)
  refine⟨V,λx M=>(g2 x (k2 x M)).1,λx M=>?_⟩;show dot n c (xb m n K)<dot n c x∨(dot n c (xb m n K)=dot n c x/\Lex (l.map λc=>dot n c (xb m n K)) (l.map λc=>dot n c x));have e1:=(g2 _ (k2 _ V.xb_mem)).2;obtain⟨e2,e3⟩:=g3 x M;by_cases e:dot n c (xb m n K)<dot n c x;exact Or.inl e;exact Or.inr ⟨Rr,k3 x (e3 Rr)⟩
theorem qBf{m n:Nat}{A:Nat->Nat->Rat}(cost:Nat->Rat){bar:Nat->Bool}{s:Sx}(h:Good m n A bar s):∃I K,Aim m n cost bar s I K:=by
 obtain⟨k,M,O⟩:=halts cost h;exact⟨_,_,k,M,O,rfl,rfl⟩
def cf(a b:Nat)(v:Rat):Nat->Rat:=λj=>if a<=j/\j<b then v else 0
theorem sm_app(a b:Nat)(f:Nat->Rat):sm (a+b) f=sm a f+sm b (λi=>f (a+i)):=by
 induction b with
 |zero=>show sm a f=sm a f+0;grind
 |succ b ih=>
  show sm (a+b) f+f (a+b)=sm a f+(sm b (λi=>f (a+i))+f (a+b));rw[ih];grind
theorem U3{n k:Nat}(I:k<n)(x:Nat->Rat):dot n (cf k (k+1) 1) x=x k:=by
 unfold dot;rw[sm_single (k:=k) I];unfold cf;rw[if_pos ⟨Oo,Oo⟩];grind;intro i _ K;unfold cf;rw[if_neg Oo];grind
theorem Qa(a b c:Nat)(v:Rat)(x:Nat->Rat):dot (a+b+c) (cf a (a+b) v) x=v*sm b (λi=>x (a+i)):=by
 unfold dot;rw[sm_app (a+b) c,sm_app a b];have I:sm a (λj=>cf a (a+b) v j*x j)=0:=sm_zero (λi hi=>by unfold cf;rw[if_neg Oo];grind);have K:sm c (λi=>cf a (a+b) v (a+b+i)*x (a+b+i))=0:=sm_zero (λi hi=>by unfold cf;rw[if_neg Oo];grind);rw[I,K,<-sm_mul];have M:sm b (λi=>cf a (a+b) v (a+i)*x (a+i))=sm b (λi=>v*x (a+i)):=sm_congr (λi hi=>by unfold cf;rw[if_pos ⟨Oo,Oo⟩]);rw[M];grind
def units(u:Nat):List (Nat->Rat):=(List.range u).map λk=>cf k (k+1) 1
def key(v:Rat)(u:Nat)(x:Nat->Rat):List Rat:=(v*sm u x)::(List.range u).map x
theorem key_inj{v:Rat}{u:Nat}{x y:Nat->Rat}(h:key v u x=key v u y):∀k,k<u->x k=y k:=by
 intro k I;have K:(List.range u).map x=(List.range u).map y:=(List.cons.inj h).2;have M:((List.range u).map x)[k]?=((List.range u).map y)[k]?:=by rw[K]
 simpa[I]using M
theorem key_congr{v:Rat}{u:Nat}{x y:Nat->Rat}(h:∀k,k<u->x k=y k):key v u x=key v u y:=by
 unfold key;rw[sm_congr h];congr 1;refine List.map_congr_left (λk I=>h k (by simpa using I))
theorem jf{n u:Nat}(K:u<=n)(x:Nat->Rat):(units u).map (λc=>dot n c x)=(List.range u).map x:=by
 unfold units;rw[List.map_map];refine List.map_congr_left (λk I=>?_);have:k<u:=by simpa using I
 exact U3 Oo x
theorem Zl{m n u:Nat}{A:Nat->Nat->Rat}(U:u<=n):∀c∈units u,∃L:Rat,∀x,F m n A (λ_=>false) x->L<=dot n c x:=by
 intro c I;unfold units at I;obtain⟨k,K,rfl⟩:=List.mem_map.1 I;have M:k<u:=by simpa using K
 exact⟨0,λx O=>by rw[U3 Oo x];exact O.2.1 k Oo⟩
theorem Ym:∀m,det m (λj i=>if j=i then 1 else 0)=1
 |0=>rfl
 |m+1=>by
  show sm (m+1) _=1;rw[sm_single (k:=0) Oo]
  ·have e:minor 0 (λj i=>if j=i then (1:Rat) else 0)=λj i=>if j=i then 1 else 0:=by
    funext a b;show(if skip 0 a=b+1 then (1:Rat) else 0)=if a=b then 1 else 0
    rw[show skip 0 a=a+1 from if_neg Oo];by_cases e:a=b;rw[if_pos e,if_pos Oo];rw[if_neg e,if_neg Oo]
   rw[e,Ym m];show 1*1*1=(1:Rat);grind
  intro i _ I;show sg i*(if i=0 then 1 else 0)*_=(0:Rat);rw[if_neg I];grind
theorem Xj{m n o:Nat}{A:Nat->Nat->Rat}(ho:o+m<=n)(I:∀i,i<m->∀r,r<m->A (o+i) r=if i=r then 1 else 0)(K:∀r,r<m->A n r=1):
 Good m n A (λ_=>false) ⟨λi j=>A j i,λi=>o+i⟩:=by
 refine⟨⟨λi hi=>by show o+i<n;omega,λi hi k V=>?_,λj U r M=>?_,?_⟩,λi hi=>?_,λ_ _=>rfl⟩
 ·show A (o+k) i=_;rw[I k V i hi];by_cases e:i=k;rw[if_pos e,if_pos e.symm];rw[if_neg e,if_neg (λh=>e h.symm)]
 ·show A j r=sm m (λi=>A j i*A (o+i) r);rw[sm_single (k:=r) M];rw[I r M r M,if_pos rfl];grind;intro i hi O;rw[I i hi r M,if_neg O];grind
 rw[je (N:=λj i=>if j=i then 1 else 0) (λj U i hi=>I j U i hi),Ym];grind;show 0<=A n i;rw[K i hi];decide
def Pack(m u:Nat)(M:Nat->Nat->Rat)(x:Nat->Rat):Prop:=(∀e,e<u->0<=x e)/\∀r,r<m->sm u (λe=>M r e*x e)<=1
def Cover(m u:Nat)(M:Nat->Nat->Rat)(x:Nat->Rat):Prop:=(∀e,e<u->0<=x e)/\∀r,r<m->1<=sm u (λe=>M r e*x e)
def packA(m u:Nat)(M:Nat->Nat->Rat):Nat->Nat->Rat:=λj r=>if j<u then M r j else if j<u+m then (if j-u=r then 1 else 0) else 1
def coverA(m u:Nat)(M:Nat->Nat->Rat):Nat->Nat->Rat:=λj r=>if j<u then M r j else if j<u+m then (if j-u=r then -1 else 0) else if j<u+m+m then (if j-u-m=r then 1 else 0) else 1
theorem jI{m r:Nat}(K:r<m)(f:Nat->Rat)(v:Rat):sm m (λi=>f i*(if i=r then v else 0))=f r*v:=by
 rw[sm_single (k:=r) K];rw[if_pos rfl];intro i _ I;rw[if_neg I];grind
theorem Vd{m u:Nat}{M:Nat->Nat->Rat}{r:Nat}(I:r<m)(x:Nat->Rat):sm (u+m) (λj=>x j*packA m u M j r)=sm u (λe=>M r e*x e)+x (u+r):=by
 rw[sm_app];have K:sm u (λj=>x j*packA m u M j r)=sm u (λe=>M r e*x e):=sm_congr (λi hi=>by unfold packA;rw[if_pos hi];grind);have O:sm m (λi=>x (u+i)*packA m u M (u+i) r)=sm m (λi=>x (u+i)*(if i=r then 1 else 0)):=sm_congr (λi hi=>by
  unfold packA;rw[if_neg Oo,if_pos Oo,show u+i-u=i by omega])
 rw[K,O,jI I];grind
theorem pack_good{m u:Nat}{M:Nat->Nat->Rat}:Good m (u+m) (packA m u M) (λ_=>false) ⟨λi j=>packA m u M j i,λi=>u+i⟩:=by
 refine Xj Oo (λi hi r I=>?_) (λr I=>?_);unfold packA;rw[if_neg Oo,if_pos Oo,show u+i-u=i by omega];unfold packA;rw[if_neg Oo,if_neg Oo]
theorem pack_least{m u:Nat}{M:Nat->Nat->Rat}(hM:∀r,r<m->∀e,e<u->0<=M r e)(a7:∀e,e<u->∃r,r<m/\M r e=1){V:Nat->Bool}{s':Sx}
 (h:Aims m (u+m) (cf 0 u (-1)::units u) (λ_=>false) ⟨λi j=>packA m u M j i,λi=>u+i⟩ V s'):
 Good m (u+m) (packA m u M) V s'/\Pack m u M (xb m (u+m) s')/\∀y,Pack m u M y->Lex (key (-1) u (xb m (u+m) s')) (key (-1) u y):=by
 have I:∀x,dot (u+m) (cf 0 u (-1)) x=(-1)*sm u x:=by
  intro x;have:=Qa 0 u m (-1) x;rw[show 0+u=u by omega]at this;rw[this];congr 1;exact sm_congr (λi _=>by rw[show 0+i=i by omega])
 have a4:∀x,F m (u+m) (packA m u M) (λ_=>false) x->∀r,r<m->sm u (λe=>M r e*x e)+x (u+r)=1:=by
  intro x O r U;rw[<-Vd U x,O.1 r U];unfold packA;rw[if_neg Oo,if_neg Oo]
 have K:∀x,F m (u+m) (packA m u M) (λ_=>false) x->Pack m u M x:=by
  intro x O;refine⟨λe he=>O.2.1 e Oo,λr U=>?_⟩;have h1:=a4 x O r U;have h2:=O.2.1 (u+r) Oo;grind
 have a5:∀x,F m (u+m) (packA m u M) (λ_=>false) x->∀e,e<u->x e<=1:=by
  intro x O e he;obtain⟨r,U,a8⟩:=a7 e he;have hp:=(K x O).2 r U;have h1:M r e*x e<=sm u (λe=>M r e*x e):=by
   rw[yu he (λe=>M r e*x e)];have:0<=sm u (λi=>if i=e then 0 else M r i*x i):=zn (λi hi=>by
    split;grind;exact Rat.mul_nonneg (hM r U i hi) (O.2.1 i Oo))
   grind
  rw[a8]at h1;grind
 obtain⟨g1,g2,g3⟩:=(pack_good (m:=m) (u:=u) (M:=M)).aims h (λc hc=>by
  rcases List.mem_cons.1 hc with rfl|hc;refine⟨-sm u (λ_=>1),λx O=>?_⟩;rw[I];have:=qBe (n:=u) (f:=x) (g:=λ_=>1) (λi hi=>a5 x O i hi);grind;exact Zl Oo c hc)
 have hF:=g2 _ g1.xb_mem;refine⟨g1,K _ hF,λy hy=>?_⟩;have a6:F m (u+m) (packA m u M) (λ_=>false) (λj=>if j<u then y j else 1-sm u (λe=>M (j-u) e*y e)):=by
  refine⟨λr U=>?_,λj hj=>?_,λj _ hb=>by cases hb⟩;rw[Vd U];have e1:sm u (λe=>M r e*(if e<u then y e else 1-sm u (λe'=>M (e-u) e'*y e')))=sm u (λe=>M r e*y e):=sm_congr (λi hi=>by rw[if_pos hi]);rw[e1,if_neg Oo,show u+r-u=r by omega];unfold packA;rw[if_neg Oo,if_neg Oo];grind;show 0<=if j<u then y j else 1-sm u (λe=>M (j-u) e*y e)
  split;exact hy.1 j (by assumption);have:=hy.2 (j-u) Oo;grind
 have a3:=g3 _ a6;rw[List.map_cons,List.map_cons,jf Oo,jf Oo,I,I]at a3;have e2:key (-1) u (λj=>if j<u then y j else 1-sm u (λe=>M (j-u) e*y e))=key (-1) u y:=key_congr (λk hk=>if_pos hk);rw[<-e2];exact a3
theorem Xk{m u:Nat}{M:Nat->Nat->Rat}{r:Nat}(I:r<m)(x:Nat->Rat):sm (u+m+m) (λj=>x j*coverA m u M j r)=sm u (λe=>M r e*x e)-x (u+r)+x (u+m+r):=by
 rw[sm_app (u+m) m,sm_app u m];have K:sm u (λj=>x j*coverA m u M j r)=sm u (λe=>M r e*x e):=sm_congr (λi hi=>by unfold coverA;rw[if_pos hi];grind);have O:sm m (λi=>x (u+i)*coverA m u M (u+i) r)=sm m (λi=>x (u+i)*(if i=r then -1 else 0)):=sm_congr (λi hi=>by
  unfold coverA;rw[if_neg Oo,if_pos Oo,show u+i-u=i by omega])
 have U:sm m (λi=>x (u+m+i)*coverA m u M (u+m+i) r)=sm m (λi=>x (u+m+i)*(if i=r then 1 else 0)):=sm_congr (λi hi=>by
  unfold coverA;rw[if_neg Oo,if_neg Oo,if_pos Oo,show u+m+i-u-m=i by omega])
 rw[K,O,U,jI I (λi=>x (u+i)),jI I (λi=>x (u+m+i))];grind
theorem cover_good{m u:Nat}{M:Nat->Nat->Rat}:Good m (u+m+m) (coverA m u M) (λ_=>false) ⟨λi j=>coverA m u M j i,λi=>u+m+i⟩:=by
 refine Xj Oo (λi hi r I=>?_) (λr I=>?_);unfold coverA;rw[if_neg Oo,if_neg Oo,if_pos Oo,show u+m+i-u-m=i by omega];unfold coverA;rw[if_neg Oo,if_neg Oo,if_neg Oo]
theorem cover_least{m u:Nat}{M:Nat->Nat->Rat}(hM:∀r,r<m->∀e,e<u->0<=M r e)(a7:∀r,r<m->∃e,e<u/\M r e=1){a3:Nat->Bool}{s':Sx}
 (h:Aims m (u+m+m) (cf (u+m) (u+m+m) 1::cf 0 u 1::units u) (λ_=>false) ⟨λi j=>coverA m u M j i,λi=>u+m+i⟩ a3 s'):
 Good m (u+m+m) (coverA m u M) a3 s'/\Cover m u M (xb m (u+m+m) s')/\∀y,Cover m u M y->Lex (key 1 u (xb m (u+m+m) s')) (key 1 u y):=by
 have I:∀x,dot (u+m+m) (cf (u+m) (u+m+m) 1) x=sm m (λi=>x (u+m+i)):=by
  intro x;have:=Qa (u+m) m 0 1 x;rw[Nat.add_zero]at this;rw[this];grind
 have O:∀x,dot (u+m+m) (cf 0 u 1) x=1*sm u x:=by
  intro x;have:=Qa 0 u (m+m) 1 x;rw[show 0+u=u by omega,show u+(m+m)=u+m+m by omega]at this;rw[this];congr 1;exact sm_congr (λi _=>by rw[show 0+i=i by omega])
 have a6:∀x,F m (u+m+m) (coverA m u M) (λ_=>false) x->∀r,r<m->sm u (λe=>M r e*x e)-x (u+r)+x (u+m+r)=1:=by
  intro x hx r V;rw[<-Xk V x,hx.1 r V];unfold coverA;rw[if_neg Oo,if_neg Oo,if_neg Oo]
 obtain⟨g1,g2,g3⟩:=(cover_good (m:=m) (u:=u) (M:=M)).aims h (λc hc=>by
  rcases List.mem_cons.1 hc with rfl|hc;exact⟨0,λx hx=>by rw[I];exact zn (λi hi=>hx.2.1 _ Oo)⟩;rcases List.mem_cons.1 hc with rfl|hc;exact⟨0,λx hx=>by rw[O];have:=zn (n:=u) (f:=x) (λi hi=>hx.2.1 _ Oo);grind⟩;exact Zl Oo c hc)
 have hF:=g2 _ g1.xb_mem;have a4:∀y,Cover m u M y->F m (u+m+m) (coverA m u M) (λ_=>false) (λj=>if j<u then y j else if j<u+m then sm u (λe=>M (j-u) e*y e)-1 else 0):=by
  intro y hy;refine⟨λr V=>?_,λj hj=>?_,λj _ hb=>by cases hb⟩;rw[Xk V];have e1:sm u (λe=>M r e*(if e<u then y e else if e<u+m then sm u (λe'=>M (e-u) e'*y e')-1 else 0))=sm u (λe=>M r e*y e):=sm_congr (λi hi=>by rw[if_pos hi]);rw[e1,if_neg Oo,if_pos Oo,if_neg Oo,if_neg Oo,show u+r-u=r by omega];unfold coverA;rw[if_neg Oo,if_neg Oo,if_neg Oo];grind;show 0<=if j<u then y j else if j<u+m then sm u (λe=>M (j-u) e*y e)-1 else 0
  split;exact hy.1 j (by assumption);split;have:=hy.2 (j-u) Oo;grind;grind
 have U:∀y:Nat->Rat,dot (u+m+m) (cf (u+m) (u+m+m) 1) (λj=>if j<u then y j else if j<u+m then sm u (λe=>M (j-u) e*y e)-1 else 0)=0:=by
  intro y;rw[I];exact sm_zero (λi _=>by rw[if_neg Oo,if_neg Oo])
 have a5:Cover m u M (λ_=>1):=by
  refine⟨λ_ _=>by show(0:Rat)<=1;decide,λr V=>?_⟩;obtain⟨e,he,a8⟩:=a7 r V;rw[yu he (λe=>M r e*1),a8];have:0<=sm u (λi=>if i=e then 0 else M r i*1):=zn (λi hi=>by
   split;grind;have:=hM r V i hi;grind)
  grind
 have hzero:sm m (λi=>xb m (u+m+m) s' (u+m+i))<=0:=by
  obtain⟨y1,a9⟩:∃y:Nat->Rat,Cover m u M y:=⟨_,a5⟩;have K:=g3 _ (a4 y1 a9);simp only[List.map_cons]at K;rw[U,I]at K;rcases K with K|⟨K,_⟩ <;> grind
 have hz:=j7 (λi hi=>hF.2.1 _ Oo) hzero;refine⟨g1,⟨λe he=>hF.2.1 e Oo,λr V=>?_⟩,λy hy=>?_⟩;have K:=a6 _ hF r V;have h2:=hz r V;have h3:=hF.2.1 (u+r) Oo;grind;have K:=g3 _ (a4 y hy);simp only[List.map_cons]at K;rw[jf Oo,jf Oo,U,I,O,O]at K;rw[sm_zero hz]at K;have e2:key 1 u (λj=>if j<u then y j else if j<u+m then sm u (λe=>M (j-u) e*y e)-1 else 0)=key 1 u y:=key_congr (λk hk=>if_pos hk);rw[<-e2];rcases K with K|⟨_,K⟩;exfalso;grind;exact K
end Go.Proofs.YtcnfapnfmnolbaaGreat.Cov
