import Derived.Test.YtjbpgdpciinlcaaGreatBg00
set_option maxHeartbeats 40000000
set_option maxRecDepth 1000000
namespace Go.Proofs.YtjbpgdpciinlcaaGreat.Cov
def first(p:Nat->Bool):Nat->Option Nat
 |0=>none
 |n+1=>match first p n with
  |some j=>some j
  |none=>if p n then some n else none
theorem vg{p:Nat->Bool}:∀{n:Nat},first p n=none->∀i,i < n->p i=false
 |0,_,i,hi=>absurd hi (by omega)
 |n+1,h,i,hi=>by
  unfold first at h;cases hf:first p n with
  |some j'=>rw[hf]at h;cases h
  |none=>
   rw[hf]at h;simp only at h;split at h
   ·cases h
   ·rename_i hp;by_cases e:i=n
    ·rw[e];simpa using hp
    ·exact vg hf i (by omega)
theorem first_some{p:Nat->Bool}:∀{n j:Nat},first p n=some j->j < n/\p j=true/\∀i,i < j->p i=false
 |0,j,h=>by cases h
 |n+1,j,h=>by
  unfold first at h;cases hf:first p n with
  |some j'=>
   rw[hf]at h;simp only[Option.some.injEq]at h;subst h;obtain⟨h1,h2,h3⟩:=first_some hf;exact⟨by omega,h2,h3⟩
  |none=>
   rw[hf]at h;simp only at h;split at h
   ·rename_i hp;simp only[Option.some.injEq]at h;subst h;exact⟨by omega,hp,fun i hi=>vg hf i hi⟩
   ·cases h
def best(good:Nat->Bool)(before:Nat->Nat->Bool):Nat->Option Nat
 |0=>none
 |m+1=>match best good before m with
  |none=>if good m then some m else none
  |some b=>if good m&&before m b then some m else some b
theorem kU{good:Nat->Bool}{before:Nat->Nat->Bool}:∀{m:Nat},best good before m=none->∀i,i < m->good i=false
 |0,_,i,hi=>absurd hi (by omega)
 |m+1,h,i,hi=>by
  unfold best at h;cases hb:best good before m with
  |none=>
   rw[hb]at h;simp only at h;split at h
   ·cases h
   ·rename_i hp;by_cases e:i=m
    ·rw[e];simpa using hp
    ·exact kU hb i (by omega)
  |some b=>
   rw[hb]at h;simp only at h;split at h <;> cases h
def before(T:Nat->Nat->Rat)(B:Nat->Nat)(n c i o:Nat):Bool:=
 if T i n / T i c=T o n / T o c then decide (B i < B o) else decide (T i n / T i c < T o n / T o c)
theorem best_some{T:Nat->Nat->Rat}{B:Nat->Nat}{n c:Nat}:∀{m r:Nat},best (fun i=>decide (0 < T i c)) (before T B n c) m=some r->
 r < m/\0 < T r c/\∀i,i < m->0 < T i c->T r n / T r c<=T i n / T i c/\(T i n / T i c=T r n / T r c->B r<=B i)
 |0,r,h=>by cases h
 |m+1,r,h=>by
  unfold best at h;cases hb:best (fun i=>decide (0 < T i c)) (before T B n c) m with
  |none=>
   rw[hb]at h;simp only at h;split at h
   ·rename_i hp;simp only[Option.some.injEq]at h;subst h;refine⟨by omega,by simpa using hp,fun i hi hpos=>?_⟩;by_cases e:i=m
    ·subst e;exact⟨by grind,fun _=>nR _⟩
    ·have:=kU hb i (by omega);simp at this;grind
   ·cases h
  |some b=>
   rw[hb]at h;obtain⟨h1,h2,h3⟩:=best_some hb;simp only at h;split at h
   ·rename_i hp;simp only[Option.some.injEq]at h;subst h;simp only[Bool.and_eq_true,decide_eq_true_eq]at hp;obtain⟨p1,p2⟩:=hp;unfold before at p2;refine⟨by omega,p1,fun i hi hpos=>?_⟩;by_cases e:i=m
    ·subst e;exact⟨by grind,fun _=>nR _⟩
    ·obtain⟨q1,q2⟩:=h3 i (by omega) hpos;split at p2
     ·rename_i heq;have p3:B m < B b:=by simpa using p2
      refine⟨by grind,fun e'=>?_⟩;have:=q2 (by grind);omega
     ·have p3:T m n / T m c < T b n / T b c:=by simpa using p2
      exact⟨by grind,fun e'=>by grind⟩
   ·rename_i hp;simp only[Option.some.injEq]at h;subst h;refine⟨by omega,h2,fun i hi hpos=>?_⟩;by_cases e:i=m
    ·subst e
     have hp':before T B n c i b=false:=by
      by_cases e':before T B n c i b=true
      ·exfalso;apply hp;rw[e'];simpa using hpos
      ·simpa using e'
     unfold before at hp';split at hp'
     ·rename_i heq;have p3:¬B i < B b:=by simpa using hp'
      exact⟨by grind,fun _=>by omega⟩
     ·have p3:¬T i n / T i c < T b n / T b c:=by simpa using hp'
      exact⟨by grind,fun e'=>by grind⟩
    ·exact h3 i (by omega) hpos
structure Sx where
 T:Nat->Nat->Rat
 B:Nat->Nat
section
variable (m n:Nat) (cost:Nat->Rat) (bar:Nat->Bool)
def enterOf(s:Sx):Option Nat:=first (fun j=>!bar j&&decide (red m cost s.T s.B j < 0)) n
def leaveOf(s:Sx)(c:Nat):Option Nat:=best (fun i=>decide (0 < s.T i c)) (before s.T s.B n c) m
def stepOf(s:Sx):Option (Nat×Nat):=match enterOf m n cost bar s with
 |none=>none
 |some c=>match leaveOf m n s c with
  |none=>none
  |some r=>some (r,c)
def pivS(s:Sx)(r c:Nat):Sx:=⟨pivT s.T r c,pivB s.B r c⟩
def nxt(s:Sx):Sx:=match stepOf m n cost bar s with
 |none=>s
 |some (r,c)=>pivS s r c
def it(s:Sx):Nat->Sx
 |0=>s
 |k+1=>nxt m n cost bar (it s k)
end
theorem nxt_some{m n:Nat}{cost:Nat->Rat}{bar:Nat->Bool}{s:Sx}{rc:Nat×Nat}(h:stepOf m n cost bar s=some rc):nxt m n cost bar s=pivS s rc.1 rc.2:=by
 unfold nxt;rw[h]
theorem step_some{m n:Nat}{cost:Nat->Rat}{bar:Nat->Bool}{s:Sx}{r c:Nat}(h:stepOf m n cost bar s=some (r,c)):
 r < m/\c < n/\bar c=false/\red m cost s.T s.B c < 0/\(∀j,j < c->bar j=false->0<=red m cost s.T s.B j)/\0 < s.T r c/\
 ∀i,i < m->0 < s.T i c->s.T r n / s.T r c<=s.T i n / s.T i c/\(s.T i n / s.T i c=s.T r n / s.T r c->s.B r<=s.B i):=by
 unfold stepOf at h;cases he:enterOf m n cost bar s with
 |none=>rw[he]at h;cases h
 |some c'=>
  rw[he]at h;simp only at h;cases hl:leaveOf m n s c' with
  |none=>rw[hl]at h;cases h
  |some r'=>
   rw[hl]at h;simp only[Option.some.injEq,Prod.mk.injEq]at h;obtain⟨rfl,rfl⟩:=h;obtain⟨h1,h2,h3⟩:=first_some he;obtain⟨h4,h5,h6⟩:=best_some hl;simp only[Bool.and_eq_true,Bool.not_eq_true',decide_eq_true_eq]at h2;refine⟨h4,h1,h2.1,h2.2,fun j hj hb=>?_,h5,h6⟩;have:=h3 j hj;rw[hb]at this;simp at this;grind
theorem Kl{m n:Nat}{T:Nat->Nat->Rat}{r c:Nat}(hr:r < m)(hf:∀i,i < m->0<=T i n)(hp:0 < T r c)
 (hmin:∀i,i < m->0 < T i c->T r n / T r c<=T i n / T i c):∀i,i < m->0<=pivT T r c i n:=by
 intro i hi;have h0:=jP (hf r hr) hp;unfold pivT;split
 ·exact h0
 ·by_cases e:0 < T i c
  ·have h1:=hmin i hi e
   have h2:T i c*(T r n / T r c)<=T i c*(T i n / T i c):=by
    have:=Rat.mul_nonneg (Rat.le_of_lt e) (show 0<=T i n / T i c - T r n / T r c by grind);grind
   have h3:T i c*(T i n / T i c)=T i n:=by grind
   grind
  ·have h1:=vR (show T i c<=0 by grind) h0;have h2:=hf i hi;grind
structure Good(m n:Nat)(A:Nat->Nat->Rat)(bar:Nat->Bool)(s:Sx):Prop where
 inv:Inv m n A s.T s.B
 feas:∀i,i < m->0<=s.T i n
 open':∀i,i < m->bar (s.B i)=false
theorem Good.step{m n:Nat}{A:Nat->Nat->Rat}{bar:Nat->Bool}{cost:Nat->Rat}{s:Sx}(h:Good m n A bar s){r c:Nat}(hs:stepOf m n cost bar s=some (r,c)):Good m n A bar (pivS s r c):=by
 obtain⟨h1,h2,h3,h4,h5,h6,h7⟩:=step_some hs;refine⟨h.inv.pivot h1 h2 (by grind),Kl h1 h.feas h6 (fun i hi hp=>(h7 i hi hp).1),fun i hi=>?_⟩;show bar (pivB s.B r c i)=false;unfold pivB;split
 ·exact h3
 ·exact h.open' i hi
theorem Good.nxt{m n:Nat}{A:Nat->Nat->Rat}{bar:Nat->Bool}{cost:Nat->Rat}{s:Sx}(h:Good m n A bar s):Good m n A bar (nxt m n cost bar s):=by
 unfold Cov.nxt;split
 ·exact h
 ·rename_i r c hs;exact h.step hs
theorem Good.it{m n:Nat}{A:Nat->Nat->Rat}{bar:Nat->Bool}{cost:Nat->Rat}{s:Sx}(h:Good m n A bar s):∀k,Good m n A bar (it m n cost bar s k)
 |0=>h
 |k+1=>(Good.it h k).nxt
theorem halts{m n:Nat}{A:Nat->Nat->Rat}{bar:Nat->Bool}(cost:Nat->Rat){s:Sx}(h:Good m n A bar s):
 ∃k,stepOf m n cost bar (it m n cost bar s k)=none/\∀k',k' < k->stepOf m n cost bar (it m n cost bar s k')≠none:=by
 have hex:∃k,stepOf m n cost bar (it m n cost bar s k)=none:=by
  by_cases hn:∃k,stepOf m n cost bar (it m n cost bar s k)=none
  ·exact hn
  ·exfalso
   have hall:∀k,∃rc:Nat×Nat,stepOf m n cost bar (it m n cost bar s k)=some rc:=by
    intro k;cases hs:stepOf m n cost bar (it m n cost bar s k)with
    |none=>exact absurd ⟨k,hs⟩ hn
    |some rc=>exact⟨rc,rfl⟩
   have hrc:=fun k=>Classical.choose_spec (hall k);refine Run.bounded (m:=m) (n:=n) (A:=A) (cost:=cost) (bar:=bar) (T:=fun k=>(it m n cost bar s k).T) (B:=fun k=>(it m n cost bar s k).B) (r:=fun k=>(Classical.choose (hall k)).1) (c:=fun k=>(Classical.choose (hall k)).2) ?_;have hst:=fun k=>step_some (r:=(Classical.choose (hall k)).1) (c:=(Classical.choose (hall k)).2) (hrc k)
   have hnx:∀k,it m n cost bar s (k+1)=pivS (it m n cost bar s k) (Classical.choose (hall k)).1 (Classical.choose (hall k)).2:=by
    intro k;exact nxt_some (hrc k)
   exact {
    inv:=fun k _=>(h.it k).inv
    feas:=fun k _=>(h.it k).feas
    rlt:=fun k _=>(hst k).1
    clt:=fun k _=>(hst k).2.1
    unbar:=fun k _=>(hst k).2.2.1
    neg:=fun k _=>(hst k).2.2.2.1
    least:=fun k _=>(hst k).2.2.2.2.1
    pos:=fun k _=>(hst k).2.2.2.2.2.1
    tie:=fun k _ i hi hp he=>((hst k).2.2.2.2.2.2 i hi hp).2 he
    nextT:=fun k _=>by rw[hnx k];rfl
    nextB:=fun k _=>by rw[hnx k];rfl }
 obtain⟨k,hk⟩:=hex;induction k using Nat.strongRecOn with
 |ind k ih=>
  by_cases hlt:∃k',k' < k/\stepOf m n cost bar (it m n cost bar s k')=none
  ·obtain⟨k',h1,h2⟩:=hlt;exact ih k' h1 h2
  ·exact⟨k,hk,fun k' h1 h2=>hlt ⟨k',h1,h2⟩⟩
def F(m n:Nat)(A:Nat->Nat->Rat)(bar:Nat->Bool)(x:Nat->Rat):Prop:=Sol m n A x/\(∀j,j < n->0<=x j)/\(∀j,j < n->bar j=true->x j=0)
def xb(m n:Nat)(s:Sx):Nat->Rat:=val m (fun i=>s.T i n) s.B
def dot(n:Nat)(cost x:Nat->Rat):Rat:=sm n (fun j=>cost j*x j)
theorem qD5{m n:Nat}{A:Nat->Nat->Rat}{s:Sx}(h:Inv m n A s.T s.B)(cost:Nat->Rat):dot n cost (xb m n s)=obj m n cost s.T s.B:=by
 rw[XI h cost];exact sm_congr (fun j _=>by unfold xb;grind)
theorem Za{m:Nat}{t:Nat->Rat}{B:Nat->Nat}(h:∀i,i < m->0<=t i)(j:Nat):0<=val m t B j:=by
 refine za (fun i hi=>?_);split
 ·exact h i hi
 ·grind
theorem Good.xb_mem{m n:Nat}{A:Nat->Nat->Rat}{bar:Nat->Bool}{s:Sx}(h:Good m n A bar s):F m n A bar (xb m n s):=by
 refine⟨h.inv.sol_basic,fun j _=>Za h.feas j,fun j _ hb=>?_⟩;refine val_not (fun i hi e=>?_);have:=h.open' i hi;rw[e,hb]at this;cases this
def narrowed(m n:Nat)(cost:Nat->Rat)(bar:Nat->Bool)(s:Sx):Nat->Bool:=fun j=>bar j||(decide (j < n)&&decide (0 < red m cost s.T s.B j))
theorem qAm{m n:Nat}{A:Nat->Nat->Rat}{bar:Nat->Bool}{cost:Nat->Rat}{s:Sx}(h:Good m n A bar s)(hs:stepOf m n cost bar s=none)
 (L:Rat) (hL:∀x,F m n A bar x->L<=dot n cost x):∀j,j < n->bar j=false->0<=red m cost s.T s.B j:=by
 unfold stepOf at hs;cases he:enterOf m n cost bar s with
 |none=>
  intro j hj hb;have:=vg he j hj;rw[hb]at this;simp at this;grind
 |some c=>
  exfalso;rw[he]at hs;simp only at hs;obtain⟨h1,h2,h3⟩:=first_some he;simp only[Bool.and_eq_true,Bool.not_eq_true',decide_eq_true_eq]at h2;obtain⟨hb,hneg⟩:=h2
  have hcol:∀i,i < m->s.T i c<=0:=by
   intro i hi;cases hl:leaveOf m n s c with
   |none=>
    have:=kU hl i hi;simp at this;grind
   |some r=>rw[hl]at hs;cases hs
  have hray:∀j,0<=ray m s.T s.B c j:=by
   intro j;unfold ray;have:=Za (B:=s.B) (t:=fun i=>- s.T i c) (m:=m) (fun i hi=>by have:=hcol i hi;grind) j;split <;> grind
  have hF:∀t:Rat,0<=t->F m n A bar (fun j=>xb m n s j+t*ray m s.T s.B c j):=by
   intro t ht;obtain⟨k1,k2,k3⟩:=h.xb_mem;refine⟨fun q hq=>?_,fun j hj=>?_,fun j hj hbj=>?_⟩
   ·have e:(fun j=>(xb m n s j+t*ray m s.T s.B c j)*A j q)=fun j=>xb m n s j*A j q+t*(ray m s.T s.B c j*A j q):=by funext j;grind
    rw[e,sm_add,sm_mul,k1 q hq,h.inv.hom_ray h1 q hq];grind
   ·have a1:=k2 j hj;have a2:=Rat.mul_nonneg ht (hray j);grind
   ·have a1:=k3 j hj hbj
    have a2:ray m s.T s.B c j=0:=by
     unfold ray;rw[if_neg (fun e=>by rw[e,hb]at hbj;cases hbj),val_not (fun i hi e=>by have:=h.open' i hi;rw[e,hbj]at this;cases this)];grind
    show xb m n s j+t*ray m s.T s.B c j=0;rw[a1,a2];grind
  have hdot:∀t:Rat,dot n cost (fun j=>xb m n s j+t*ray m s.T s.B c j)=dot n cost (xb m n s)+t*red m cost s.T s.B c:=by
   intro t;unfold dot;have e:(fun j=>cost j*(xb m n s j+t*ray m s.T s.B c j))=fun j=>cost j*xb m n s j+t*(cost j*ray m s.T s.B c j):=by funext j;grind
   rw[e,sm_add,sm_mul,h.inv.ray_cost cost h1]
  have hb0:=hL _ h.xb_mem;have ht:0<=(dot n cost (xb m n s) - L+1) / (- red m cost s.T s.B c):=jP (by grind) (by grind);have h5:=hL _ (hF _ ht);rw[hdot]at h5;have h6:(dot n cost (xb m n s) - L+1) / (- red m cost s.T s.B c)*red m cost s.T s.B c=-(dot n cost (xb m n s) - L+1):=by grind
  grind
theorem phase{m n:Nat}{A:Nat->Nat->Rat}{bar:Nat->Bool}{cost:Nat->Rat}{s:Sx}(h:Good m n A bar s)(hs:stepOf m n cost bar s=none)
 (L:Rat) (hL:∀x,F m n A bar x->L<=dot n cost x):
 Good m n A (narrowed m n cost bar s) s/\(∀x,F m n A (narrowed m n cost bar s) x->F m n A bar x/\dot n cost x=dot n cost (xb m n s))/\
 (∀x,F m n A bar x->dot n cost (xb m n s)<=dot n cost x/\(dot n cost x<=dot n cost (xb m n s)->F m n A (narrowed m n cost bar s) x)):=by
 have hbest:=qAm h hs L hL
 have hcost:∀x,F m n A bar x->dot n cost x=sm n (fun j=>red m cost s.T s.B j*x j)+dot n cost (xb m n s):=by
  intro x hx;rw[qD5 h.inv cost];exact h.inv.cost_sol cost hx.1
 have hterm:∀x,F m n A bar x->∀j,j < n->0<=red m cost s.T s.B j*x j:=by
  intro x hx j hj;cases hb:bar j with
  |false=>exact Rat.mul_nonneg (hbest j hj hb) (hx.2.1 j hj)
  |true=>rw[hx.2.2 j hj hb];grind
 refine⟨⟨h.inv,h.feas,fun i hi=>?_⟩,fun x hx=>?_,fun x hx=>?_⟩
 ·unfold narrowed;rw[h.open' i hi,h.inv.red_basic cost hi];simp
 ·have hx':F m n A bar x:=⟨hx.1,hx.2.1,fun j hj hb=>hx.2.2 j hj (by unfold narrowed;rw[hb];rfl)⟩;refine⟨hx',?_⟩;rw[hcost x hx',sm_zero]
  ·grind
  ·intro j hj;cases hn:narrowed m n cost bar s j with
   |true=>rw[hx.2.2 j hj hn];grind
   |false=>
    unfold narrowed at hn;simp only[Bool.or_eq_false_iff,Bool.and_eq_false_iff,decide_eq_false_iff_not]at hn;obtain⟨n1,n2⟩:=hn;have:=hbest j hj n1
    have h0:red m cost s.T s.B j=0:=by
     rcases n2 with n2|n2
     ·omega
     ·grind
    rw[h0];grind
 ·have h1:=hcost x hx;have h2:=za (hterm x hx);refine⟨by grind,fun hle=>⟨hx.1,hx.2.1,fun j hj hn=>?_⟩⟩;have h3:=u7 (hterm x hx) (by grind) j hj;unfold narrowed at hn;simp only[Bool.or_eq_true,Bool.and_eq_true,decide_eq_true_eq]at hn;rcases hn with hn|⟨_,hn⟩
  ·exact hx.2.2 j hj hn
  ·rcases Rat.mul_eq_zero.1 h3 with e|e
   ·grind
   ·exact e
end Go.Proofs.YtjbpgdpciinlcaaGreat.Cov
namespace Go.Proofs.YtjbpgdpciinlcaaGreat.Cov
def Lex:List Rat->List Rat->Prop
 |a::l,b::r=>a < b∨(a=b/\Lex l r)
 |[],[]=>True
 |_,_=>False
theorem Lex.antisymm:∀{l r:List Rat},Lex l r->Lex r l->l=r
 |[],[],_,_=>rfl
 |[],_::_,h,_=>h.elim
 |_::_,[],h,_=>h.elim
 |a::l,b::r,h1,h2=>by
  rcases h1 with h1|⟨h1,h1'⟩ <;> rcases h2 with h2|⟨h2,h2'⟩
  ·exfalso;grind
  ·exfalso;grind
  ·exfalso;grind
  ·rw[h1,Lex.antisymm h1' h2']
def Aim(m n:Nat)(cost:Nat->Rat)(bar:Nat->Bool)(s:Sx)(bar':Nat->Bool)(s':Sx):Prop:=
 ∃k,stepOf m n cost bar (it m n cost bar s k)=none/\(∀k',k' < k->stepOf m n cost bar (it m n cost bar s k')≠none)/\s'=it m n cost bar s k/\bar'=narrowed m n cost bar s'
def Aims(m n:Nat):List (Nat->Rat)->(Nat->Bool)->Sx->(Nat->Bool)->Sx->Prop
 |[],bar,s,bar',s'=>bar'=bar/\s'=s
 |c::l,bar,s,bar',s'=>∃b1 s1,Aim m n c bar s b1 s1/\Aims m n l b1 s1 bar' s'
theorem Good.aim{m n:Nat}{A:Nat->Nat->Rat}{cost:Nat->Rat}{bar bar':Nat->Bool}{s s':Sx}(h:Good m n A bar s)(ha:Aim m n cost bar s bar' s')
 (L:Rat) (hL:∀x,F m n A bar x->L<=dot n cost x):
 Good m n A bar' s'/\(∀x,F m n A bar' x->F m n A bar x/\dot n cost x=dot n cost (xb m n s'))/\
 (∀x,F m n A bar x->dot n cost (xb m n s')<=dot n cost x/\(dot n cost x<=dot n cost (xb m n s')->F m n A bar' x)):=by
 obtain⟨k,h1,_,h3,h4⟩:=ha;subst h4;rw[<-h3]at h1;have hg:Good m n A bar s':=by rw[h3];exact h.it k
 exact phase hg h1 L hL
theorem Good.aims{m n:Nat}{A:Nat->Nat->Rat}:∀{l:List (Nat->Rat)} {bar bar':Nat->Bool} {s s':Sx},Good m n A bar s->Aims m n l bar s bar' s'->
 (∀c∈l,∃L:Rat,∀x,F m n A bar x->L<=dot n c x)->
 Good m n A bar' s'/\(∀x,F m n A bar' x->F m n A bar x)/\∀x,F m n A bar x->Lex (l.map fun c=>dot n c (xb m n s')) (l.map fun c=>dot n c x)
 |[],bar,bar',s,s',hg,ha,_=>by
  obtain⟨rfl,rfl⟩:=ha;exact⟨hg,fun _ hx=>hx,fun _ _=>trivial⟩
 |c::l,bar,bar',s,s',hg,ha,hb=>by
  obtain⟨b1,s1,h1,h2⟩:=ha;obtain⟨L,hL⟩:=hb c (List.mem_cons_self);obtain⟨g1,g2,g3⟩:=hg.aim h1 L hL
  obtain⟨k1,k2,k3⟩:=Good.aims g1 h2 (fun c' hc'=>by
   obtain⟨L',hL'⟩:=hb c' (mC _ hc');exact⟨L',fun x hx=>hL' x (g2 x hx).1⟩)
  refine⟨k1,fun x hx=>(g2 x (k2 x hx)).1,fun x hx=>?_⟩;show dot n c (xb m n s') < dot n c x∨(dot n c (xb m n s')=dot n c x/\Lex (l.map fun c=>dot n c (xb m n s')) (l.map fun c=>dot n c x));have e1:=(g2 _ (k2 _ k1.xb_mem)).2;obtain⟨e2,e3⟩:=g3 x hx;by_cases e:dot n c (xb m n s') < dot n c x
  ·exact Or.inl e
  ·exact Or.inr ⟨by grind,k3 x (e3 (by grind))⟩
theorem Kg{m n:Nat}{A:Nat->Nat->Rat}(cost:Nat->Rat){bar:Nat->Bool}{s:Sx}(h:Good m n A bar s):∃bar' s',Aim m n cost bar s bar' s':=by
 obtain⟨k,h1,h2⟩:=halts cost h;exact⟨_,_,k,h1,h2,rfl,rfl⟩
def cf(a b:Nat)(v:Rat):Nat->Rat:=fun j=>if a<=j/\j < b then v else 0
theorem sm_app(a b:Nat)(f:Nat->Rat):sm (a+b) f=sm a f+sm b (fun i=>f (a+i)):=by
 induction b with
 |zero=>show sm a f=sm a f+0;grind
 |succ b ih=>
  show sm (a+b) f+f (a+b)=sm a f+(sm b (fun i=>f (a+i))+f (a+b));rw[ih];grind
theorem VO{n k:Nat}(hk:k < n)(x:Nat->Rat):dot n (cf k (k+1) 1) x=x k:=by
 unfold dot;rw[sm_single (k:=k) hk]
 ·unfold cf;rw[if_pos ⟨by omega,by omega⟩];grind
 ·intro i _ hne;unfold cf;rw[if_neg (by omega)];grind
theorem kN(a b c:Nat)(v:Rat)(x:Nat->Rat):dot (a+b+c) (cf a (a+b) v) x=v*sm b (fun i=>x (a+i)):=by
 unfold dot;rw[sm_app (a+b) c,sm_app a b];have e1:sm a (fun j=>cf a (a+b) v j*x j)=0:=sm_zero (fun i hi=>by unfold cf;rw[if_neg (by omega)];grind);have e2:sm c (fun i=>cf a (a+b) v (a+b+i)*x (a+b+i))=0:=sm_zero (fun i hi=>by unfold cf;rw[if_neg (by omega)];grind);rw[e1,e2,<-sm_mul];have e3:sm b (fun i=>cf a (a+b) v (a+i)*x (a+i))=sm b (fun i=>v*x (a+i)):=sm_congr (fun i hi=>by unfold cf;rw[if_pos ⟨by omega,by omega⟩]);rw[e3];grind
def units(u:Nat):List (Nat->Rat):=(List.range u).map fun k=>cf k (k+1) 1
def key(v:Rat)(u:Nat)(x:Nat->Rat):List Rat:=(v*sm u x)::(List.range u).map x
theorem key_inj{v:Rat}{u:Nat}{x y:Nat->Rat}(h:key v u x=key v u y):∀k,k < u->x k=y k:=by
 intro k hk;have h1:(List.range u).map x=(List.range u).map y:=(List.cons.inj h).2;have h2:((List.range u).map x)[k]?=((List.range u).map y)[k]?:=by rw[h1]
 simpa[hk]using h2
theorem key_congr{v:Rat}{u:Nat}{x y:Nat->Rat}(h:∀k,k < u->x k=y k):key v u x=key v u y:=by
 unfold key;rw[sm_congr h];congr 1;refine List.map_congr_left (fun k hk=>h k (by simpa using hk))
theorem uZ{n u:Nat}(hu:u<=n)(x:Nat->Rat):(units u).map (fun c=>dot n c x)=(List.range u).map x:=by
 unfold units;rw[List.map_map];refine List.map_congr_left (fun k hk=>?_);have:k < u:=by simpa using hk
 exact VO (by omega) x
theorem QX{m n u:Nat}{A:Nat->Nat->Rat}(hu:u<=n):∀c∈units u,∃L:Rat,∀x,F m n A (fun _=>false) x->L<=dot n c x:=by
 intro c hc;unfold units at hc;obtain⟨k,hk,rfl⟩:=List.mem_map.1 hc;have hk':k < u:=by simpa using hk
 exact⟨0,fun x hx=>by rw[VO (by omega) x];exact hx.2.1 k (by omega)⟩
theorem XL:∀m,det m (fun j i=>if j=i then 1 else 0)=1
 |0=>rfl
 |m+1=>by
  show sm (m+1) _=1;rw[sm_single (k:=0) (by omega)]
  ·have e:minor 0 (fun j i=>if j=i then (1:Rat) else 0)=fun j i=>if j=i then 1 else 0:=by
    funext a b;show(if skip 0 a=b+1 then (1:Rat) else 0)=if a=b then 1 else 0
    rw[show skip 0 a=a+1 from if_neg (by omega)];by_cases e:a=b
    ·rw[if_pos e,if_pos (by omega)]
    ·rw[if_neg e,if_neg (by omega)]
   rw[e,XL m];show 1*1*1=(1:Rat);grind
  ·intro i _ hne;show sg i*(if i=0 then 1 else 0)*_=(0:Rat);rw[if_neg hne];grind
theorem ZT{m n o:Nat}{A:Nat->Nat->Rat}(ho:o+m<=n)(hunit:∀i,i < m->∀r,r < m->A (o+i) r=if i=r then 1 else 0)(hone:∀r,r < m->A n r=1):
 Good m n A (fun _=>false) ⟨fun i j=>A j i,fun i=>o+i⟩:=by
 refine⟨⟨fun i hi=>by show o+i < n;omega,fun i hi k hk=>?_,fun j hj r hr=>?_,?_⟩,fun i hi=>?_,fun _ _=>rfl⟩
 ·show A (o+k) i=_;rw[hunit k hk i hi];by_cases e:i=k
  ·rw[if_pos e,if_pos e.symm]
  ·rw[if_neg e,if_neg (fun h=>e h.symm)]
 ·show A j r=sm m (fun i=>A j i*A (o+i) r);rw[sm_single (k:=r) hr]
  ·rw[hunit r hr r hr,if_pos rfl];grind
  ·intro i hi hne;rw[hunit i hi r hr,if_neg hne];grind
 ·rw[uY (N:=fun j i=>if j=i then 1 else 0) (fun j hj i hi=>hunit j hj i hi),XL];grind
 ·show 0<=A n i;rw[hone i hi];decide
def Pack(m u:Nat)(M:Nat->Nat->Rat)(x:Nat->Rat):Prop:=(∀e,e < u->0<=x e)/\∀r,r < m->sm u (fun e=>M r e*x e)<=1
def Cover(m u:Nat)(M:Nat->Nat->Rat)(x:Nat->Rat):Prop:=(∀e,e < u->0<=x e)/\∀r,r < m->1<=sm u (fun e=>M r e*x e)
def packA(m u:Nat)(M:Nat->Nat->Rat):Nat->Nat->Rat:=fun j r=>if j < u then M r j else if j < u+m then (if j - u=r then 1 else 0) else 1
def coverA(m u:Nat)(M:Nat->Nat->Rat):Nat->Nat->Rat:=fun j r=>if j < u then M r j else if j < u+m then (if j - u=r then -1 else 0) else if j < u+m+m then (if j - u - m=r then 1 else 0) else 1
theorem uF{m r:Nat}(hr:r < m)(f:Nat->Rat)(v:Rat):sm m (fun i=>f i*(if i=r then v else 0))=f r*v:=by
 rw[sm_single (k:=r) hr]
 ·rw[if_pos rfl]
 ·intro i _ hne;rw[if_neg hne];grind
theorem X6{m u:Nat}{M:Nat->Nat->Rat}{r:Nat}(hr:r < m)(x:Nat->Rat):sm (u+m) (fun j=>x j*packA m u M j r)=sm u (fun e=>M r e*x e)+x (u+r):=by
 rw[sm_app];have e1:sm u (fun j=>x j*packA m u M j r)=sm u (fun e=>M r e*x e):=sm_congr (fun i hi=>by unfold packA;rw[if_pos hi];grind)
 have e2:sm m (fun i=>x (u+i)*packA m u M (u+i) r)=sm m (fun i=>x (u+i)*(if i=r then 1 else 0)):=sm_congr (fun i hi=>by
  unfold packA;rw[if_neg (by omega),if_pos (by omega),show u+i - u=i by omega])
 rw[e1,e2,uF hr];grind
theorem pack_good{m u:Nat}{M:Nat->Nat->Rat}:Good m (u+m) (packA m u M) (fun _=>false) ⟨fun i j=>packA m u M j i,fun i=>u+i⟩:=by
 refine ZT (by omega) (fun i hi r hr=>?_) (fun r hr=>?_)
 ·unfold packA;rw[if_neg (by omega),if_pos (by omega),show u+i - u=i by omega]
 ·unfold packA;rw[if_neg (by omega),if_neg (by omega)]
theorem pack_least{m u:Nat}{M:Nat->Nat->Rat}(hM:∀r,r < m->∀e,e < u->0<=M r e)(hin:∀e,e < u->∃r,r < m/\M r e=1){bar':Nat->Bool}{s':Sx}
 (h:Aims m (u+m) (cf 0 u (-1)::units u) (fun _=>false) ⟨fun i j=>packA m u M j i,fun i=>u+i⟩ bar' s'):
 Good m (u+m) (packA m u M) bar' s'/\Pack m u M (xb m (u+m) s')/\∀y,Pack m u M y->Lex (key (-1) u (xb m (u+m) s')) (key (-1) u y):=by
 have hsum:∀x,dot (u+m) (cf 0 u (-1)) x=(-1)*sm u x:=by
  intro x;have:=kN 0 u m (-1) x;rw[show 0+u=u by omega]at this;rw[this];congr 1;exact sm_congr (fun i _=>by rw[show 0+i=i by omega])
 have hrow:∀x,F m (u+m) (packA m u M) (fun _=>false) x->∀r,r < m->sm u (fun e=>M r e*x e)+x (u+r)=1:=by
  intro x hx r hr;rw[<-X6 hr x,hx.1 r hr];unfold packA;rw[if_neg (by omega),if_neg (by omega)]
 have hpack:∀x,F m (u+m) (packA m u M) (fun _=>false) x->Pack m u M x:=by
  intro x hx;refine⟨fun e he=>hx.2.1 e (by omega),fun r hr=>?_⟩;have h1:=hrow x hx r hr;have h2:=hx.2.1 (u+r) (by omega);grind
 have hone:∀x,F m (u+m) (packA m u M) (fun _=>false) x->∀e,e < u->x e<=1:=by
  intro x hx e he;obtain⟨r,hr,hre⟩:=hin e he;have hp:=(hpack x hx).2 r hr
  have h1:M r e*x e<=sm u (fun e=>M r e*x e):=by
   rw[yM he (fun e=>M r e*x e)]
   have:0<=sm u (fun i=>if i=e then 0 else M r i*x i):=za (fun i hi=>by
    split
    ·grind
    ·exact Rat.mul_nonneg (hM r hr i hi) (hx.2.1 i (by omega)))
   grind
  rw[hre]at h1;grind
 obtain⟨g1,g2,g3⟩:=(pack_good (m:=m) (u:=u) (M:=M)).aims h (fun c hc=>by
  rcases List.mem_cons.1 hc with rfl|hc
  ·refine⟨-sm u (fun _=>1),fun x hx=>?_⟩;rw[hsum];have:=Kf (n:=u) (f:=x) (g:=fun _=>1) (fun i hi=>hone x hx i hi);grind
  ·exact QX (by omega) c hc)
 have hF:=g2 _ g1.xb_mem;refine⟨g1,hpack _ hF,fun y hy=>?_⟩
 have hext:F m (u+m) (packA m u M) (fun _=>false) (fun j=>if j < u then y j else 1 - sm u (fun e=>M (j - u) e*y e)):=by
  refine⟨fun r hr=>?_,fun j hj=>?_,fun j _ hb=>by cases hb⟩
  ·rw[X6 hr];have e1:sm u (fun e=>M r e*(if e < u then y e else 1 - sm u (fun e'=>M (e - u) e'*y e')))=sm u (fun e=>M r e*y e):=sm_congr (fun i hi=>by rw[if_pos hi]);rw[e1,if_neg (by omega),show u+r - u=r by omega];unfold packA;rw[if_neg (by omega),if_neg (by omega)];grind
  ·show 0<=if j < u then y j else 1 - sm u (fun e=>M (j - u) e*y e)
   split
   ·exact hy.1 j (by assumption)
   ·have:=hy.2 (j - u) (by omega);grind
 have hlex:=g3 _ hext;rw[List.map_cons,List.map_cons,uZ (by omega),uZ (by omega),hsum,hsum]at hlex;have e2:key (-1) u (fun j=>if j < u then y j else 1 - sm u (fun e=>M (j - u) e*y e))=key (-1) u y:=key_congr (fun k hk=>if_pos hk);rw[<-e2];exact hlex
theorem ZU{m u:Nat}{M:Nat->Nat->Rat}{r:Nat}(hr:r < m)(x:Nat->Rat):sm (u+m+m) (fun j=>x j*coverA m u M j r)=sm u (fun e=>M r e*x e) - x (u+r)+x (u+m+r):=by
 rw[sm_app (u+m) m,sm_app u m];have e1:sm u (fun j=>x j*coverA m u M j r)=sm u (fun e=>M r e*x e):=sm_congr (fun i hi=>by unfold coverA;rw[if_pos hi];grind)
 have e2:sm m (fun i=>x (u+i)*coverA m u M (u+i) r)=sm m (fun i=>x (u+i)*(if i=r then -1 else 0)):=sm_congr (fun i hi=>by
  unfold coverA;rw[if_neg (by omega),if_pos (by omega),show u+i - u=i by omega])
 have e3:sm m (fun i=>x (u+m+i)*coverA m u M (u+m+i) r)=sm m (fun i=>x (u+m+i)*(if i=r then 1 else 0)):=sm_congr (fun i hi=>by
  unfold coverA;rw[if_neg (by omega),if_neg (by omega),if_pos (by omega),show u+m+i - u - m=i by omega])
 rw[e1,e2,e3,uF hr (fun i=>x (u+i)),uF hr (fun i=>x (u+m+i))];grind
theorem cover_good{m u:Nat}{M:Nat->Nat->Rat}:Good m (u+m+m) (coverA m u M) (fun _=>false) ⟨fun i j=>coverA m u M j i,fun i=>u+m+i⟩:=by
 refine ZT (by omega) (fun i hi r hr=>?_) (fun r hr=>?_)
 ·unfold coverA;rw[if_neg (by omega),if_neg (by omega),if_pos (by omega),show u+m+i - u - m=i by omega]
 ·unfold coverA;rw[if_neg (by omega),if_neg (by omega),if_neg (by omega)]
theorem cover_least{m u:Nat}{M:Nat->Nat->Rat}(hM:∀r,r < m->∀e,e < u->0<=M r e)(hin:∀r,r < m->∃e,e < u/\M r e=1){bar':Nat->Bool}{s':Sx}
 (h:Aims m (u+m+m) (cf (u+m) (u+m+m) 1::cf 0 u 1::units u) (fun _=>false) ⟨fun i j=>coverA m u M j i,fun i=>u+m+i⟩ bar' s'):
 Good m (u+m+m) (coverA m u M) bar' s'/\Cover m u M (xb m (u+m+m) s')/\∀y,Cover m u M y->Lex (key 1 u (xb m (u+m+m) s')) (key 1 u y):=by
 have hart:∀x,dot (u+m+m) (cf (u+m) (u+m+m) 1) x=sm m (fun i=>x (u+m+i)):=by
  intro x;have:=kN (u+m) m 0 1 x;rw[Nat.add_zero]at this;rw[this];grind
 have hsum:∀x,dot (u+m+m) (cf 0 u 1) x=1*sm u x:=by
  intro x;have:=kN 0 u (m+m) 1 x;rw[show 0+u=u by omega,show u+(m+m)=u+m+m by omega]at this;rw[this];congr 1;exact sm_congr (fun i _=>by rw[show 0+i=i by omega])
 have hrow:∀x,F m (u+m+m) (coverA m u M) (fun _=>false) x->∀r,r < m->sm u (fun e=>M r e*x e) - x (u+r)+x (u+m+r)=1:=by
  intro x hx r hr;rw[<-ZU hr x,hx.1 r hr];unfold coverA;rw[if_neg (by omega),if_neg (by omega),if_neg (by omega)]
 obtain⟨g1,g2,g3⟩:=(cover_good (m:=m) (u:=u) (M:=M)).aims h (fun c hc=>by
  rcases List.mem_cons.1 hc with rfl|hc
  ·exact⟨0,fun x hx=>by rw[hart];exact za (fun i hi=>hx.2.1 _ (by omega))⟩
  ·rcases List.mem_cons.1 hc with rfl|hc
   ·exact⟨0,fun x hx=>by rw[hsum];have:=za (n:=u) (f:=x) (fun i hi=>hx.2.1 _ (by omega));grind⟩
   ·exact QX (by omega) c hc)
 have hF:=g2 _ g1.xb_mem
 have hext:∀y,Cover m u M y->F m (u+m+m) (coverA m u M) (fun _=>false) (fun j=>if j < u then y j else if j < u+m then sm u (fun e=>M (j - u) e*y e) - 1 else 0):=by
  intro y hy;refine⟨fun r hr=>?_,fun j hj=>?_,fun j _ hb=>by cases hb⟩
  ·rw[ZU hr];have e1:sm u (fun e=>M r e*(if e < u then y e else if e < u+m then sm u (fun e'=>M (e - u) e'*y e') - 1 else 0))=sm u (fun e=>M r e*y e):=sm_congr (fun i hi=>by rw[if_pos hi]);rw[e1,if_neg (by omega),if_pos (by omega),if_neg (by omega),if_neg (by omega),show u+r - u=r by omega];unfold coverA;rw[if_neg (by omega),if_neg (by omega),if_neg (by omega)];grind
  ·show 0<=if j < u then y j else if j < u+m then sm u (fun e=>M (j - u) e*y e) - 1 else 0
   split
   ·exact hy.1 j (by assumption)
   ·split
    ·have:=hy.2 (j - u) (by omega);grind
    ·grind
 have hartz:∀y:Nat->Rat,dot (u+m+m) (cf (u+m) (u+m+m) 1) (fun j=>if j < u then y j else if j < u+m then sm u (fun e=>M (j - u) e*y e) - 1 else 0)=0:=by
  intro y;rw[hart];exact sm_zero (fun i _=>by rw[if_neg (by omega),if_neg (by omega)])
 have hcov1:Cover m u M (fun _=>1):=by
  refine⟨fun _ _=>by show(0:Rat)<=1;decide,fun r hr=>?_⟩;obtain⟨e,he,hre⟩:=hin r hr;rw[yM he (fun e=>M r e*1),hre]
  have:0<=sm u (fun i=>if i=e then 0 else M r i*1):=za (fun i hi=>by
   split
   ·grind
   ·have:=hM r hr i hi;grind)
  grind
 have hzero:sm m (fun i=>xb m (u+m+m) s' (u+m+i))<=0:=by
  obtain⟨y1,hy1⟩:∃y:Nat->Rat,Cover m u M y:=⟨_,hcov1⟩;have h1:=g3 _ (hext y1 hy1);simp only[List.map_cons]at h1;rw[hartz,hart]at h1;rcases h1 with h1|⟨h1,_⟩ <;> grind
 have hz:=u7 (fun i hi=>hF.2.1 _ (by omega)) hzero;refine⟨g1,⟨fun e he=>hF.2.1 e (by omega),fun r hr=>?_⟩,fun y hy=>?_⟩
 ·have h1:=hrow _ hF r hr;have h2:=hz r hr;have h3:=hF.2.1 (u+r) (by omega);grind
 ·have h1:=g3 _ (hext y hy);simp only[List.map_cons]at h1;rw[uZ (by omega),uZ (by omega),hartz,hart,hsum,hsum]at h1;rw[sm_zero hz]at h1;have e2:key 1 u (fun j=>if j < u then y j else if j < u+m then sm u (fun e=>M (j - u) e*y e) - 1 else 0)=key 1 u y:=key_congr (fun k hk=>if_pos hk);rw[<-e2];rcases h1 with h1|⟨_,h1⟩
  ·exfalso;grind
  ·exact h1
end Go.Proofs.YtjbpgdpciinlcaaGreat.Cov
