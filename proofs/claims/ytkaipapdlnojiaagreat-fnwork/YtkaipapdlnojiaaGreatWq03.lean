import Derived.Test.YtkaipapdlnojiaaGreatWq02
set_option maxHeartbeats 40000000
set_option maxRecDepth 1000000
namespace Go.Proofs.YtkaipapdlnojiaaGreat.Cov
theorem qBo{m n o:Nat}{A:Nat->Nat->Rat}(U:o+m<=n)(I:∀i,i < m->∀r,r < m->A (o+i) r=if i=r then 1 else 0):
 Inv m n A (λi j=>A j i) (λi=>o+i):=by
 refine⟨λi hi=>by show o+i < n;omega,λi hi k O=>?_,λj M r hr=>?_,?_⟩
 ·show A (o+k) i=_;rw[I k O i hi];by_cases e:i=k
  ·rw[if_pos e,if_pos e.symm]
  ·rw[if_neg e,if_neg (λh=>e h.symm)]
 ·show A j r=sm m (λi=>A j i*A (o+i) r);rw[sm_single (k:=r) hr]
  ·rw[I r hr r hr,if_pos rfl];grind
  ·intro i hi K;rw[I i hi r hr,if_neg K];grind
 ·rw[jC (N:=λj i=>if j=i then 1 else 0) (λj M i hi=>I j M i hi),Xa];grind
def solveA(n:Nat)(R0:Nat->Nat->Rat):Nat->Nat->Rat:=λj r=>if j < n then R0 r j else if j < n+n then (if j - n=r then 1 else 0) else R0 r n
def cl(n j:Nat):Nat:=if j=n then n+n else j
structure GJ(n c:Nat)(R0 R:Nat->Nat->Rat)(T:Nat->Nat->Rat)(B s:Nat->Nat)(piv:Nat->Rat):Prop where
 inv:Inv n (n+n) (solveA n R0) T B
 lt:∀i,i < n->s i < n
 inj:∀i,i < n->∀k,k < n->s i=s k->i=k
 done:∀i,i < c->B (s i)=i
 todo:∀i,c<=i->i < n->B (s i)=n+s i
 rowd:∀i,i < c->∀j,j<=n->R i j=piv i*T (s i) (cl n j)
 rowt:∀i,c<=i->i < n->∀j,j<=n->R i j=T (s i) (cl n j)
 pivne:∀i,i < c->piv i≠0
 pivsm:∀i,i < c->∃D:Int,D≠0/\D.natAbs<=fac n/\Whole (fac n) (piv i*D)
theorem gj_start(n:Nat)(R0:Nat->Nat->Rat):GJ n 0 R0 R0 (λi j=>solveA n R0 j i) (λi=>n+i) (λi=>i) (λ_=>1):=by
 refine⟨qBo (bK _) (λi hi r hr=>?_),λi hi=>hi,λi _ k _ h=>h,λi hi=>Oo,λi _ _=>rfl,λi hi=>Oo,λi _ hi j I=>?_,λi hi=>Oo,λi hi=>Oo⟩
 ·unfold solveA;rw[if_neg Oo,if_pos Oo,show n+i - n=i by omega]
 ·unfold solveA cl;by_cases e:j=n
  ·rw[if_pos e,if_neg Oo,if_neg Oo,e]
  ·rw[if_neg e,if_pos Oo]
def swp(s:Nat->Nat)(c p:Nat):Nat->Nat:=λi=>if i=c then s p else if i=p then s c else s i
def swpR(R:Nat->Nat->Rat)(c p:Nat):Nat->Nat->Rat:=λi=>if i=c then R p else if i=p then R c else R i
def elim(R:Nat->Nat->Rat)(c:Nat):Nat->Nat->Rat:=λi j=>if i=c∨R i c=0∨j < c then R i j else R i j - R i c / R c c*R c j
theorem gj_step{n c p:Nat}{R0 R T:Nat->Nat->Rat}{B s:Nat->Nat}{piv:Nat->Rat}(h:GJ n c R0 R T B s piv)(hw:∀j,j<=n->∀r,r < n->Whole 1 (R0 r j))(a6:c<=p)(hp:p < n)(a7:R p c≠0):
 GJ n (c+1) R0 (elim (swpR R c p) c) (pivT T (s p) c) (pivB B (s p) c) (swp s c p) (λi=>if i=c then T (s p) c else piv i):=by
 have a8:T (s p) c=R p c:=by
  rw[h.rowt p a6 hp c Oo];unfold cl;rw[if_neg Oo]
 have a2:T (s p) c≠0:=by rw[a8];exact a7
 have hc:c < n:=Oo
 have M:∀i,i < n->i≠c->swp s c p i≠s p:=by
  intro i hi I e;unfold swp at e;rw[if_neg I]at e;by_cases O:i=p
  ·rw[if_pos O]at e;have:=h.inj c hc p hp e;omega
  ·rw[if_neg O]at e;exact O (h.inj i hi p hp e)
 have V:∀i,i < n->i≠c->∀j,j<=n->swpR R c p i j=(if i < c then piv i else 1)*T (swp s c p i) (cl n j):=by
  intro i hi I j U;unfold swpR swp;rw[if_neg I,if_neg I];by_cases O:i=p
  ·rw[if_pos O,if_pos O,if_neg Oo,h.rowt c Oo hc j U];grind
  ·rw[if_neg O,if_neg O];by_cases e3:i < c
   ·rw[if_pos e3,h.rowd i e3 j U]
   ·rw[if_neg e3,h.rowt i Oo hi j U];grind
 have a5:∀j,j<=n->swpR R c p c j=T (s p) (cl n j):=by
  intro j U;unfold swpR;rw[if_pos rfl,h.rowt p a6 hp j U]
 have a3:cl n c=c:=if_neg Oo
 have a4:∀i,i < n->i≠c->∀j,j<=n->elim (swpR R c p) c i j=(if i < c then piv i else 1)*pivT T (s p) c (swp s c p i) (cl n j):=by
  intro i hi I j U;unfold pivT;rw[if_neg (M i hi I)];unfold elim;by_cases K:swpR R c p i c=0
  ·rw[if_pos (Or.inr (Or.inl K)),V i hi I j U];rw[V i hi I c Oo,a3]at K;by_cases e3:i < c
   ·rw[if_pos e3]at K ⊢;have:=h.pivne i e3;rcases Rat.mul_eq_zero.1 K with e|e
    ·exact absurd e this
    ·rw[e];grind
   ·rw[if_neg e3]at K ⊢;have:T (swp s c p i) c=0:=Rr;rw[this];grind
  ·by_cases O:j < c
   ·rw[if_pos (Or.inr (Or.inr O)),V i hi I j U]
    have hz:T (s p) (cl n j)=0:=by
     rw[show cl n j=j from if_neg Oo];have:=h.inv.unit (s p) (h.lt p hp) (s j) (h.lt j Oo);rw[h.done j O,if_neg (λe=>by have:=h.inj p hp j Oo e;omega)]at this;exact this
    rw[hz];grind
   ·rw[if_neg (λe=>by rcases e with e|e|e;exact I e;exact K e;exact O e),V i hi I j U,V i hi I c Oo,a5 c Oo,a5 j U,a3];grind
 obtain⟨D,a9,b0,b7⟩:=h.inv.small (λj U r hr=>by
  unfold solveA;split
  ·exact hw j Oo r hr
  ·split
   ·split
    ·exact⟨1,rfl,Dd⟩
    ·exact⟨0,rfl,Dd⟩
   ·exact hw n (bK _) r hr)
 refine⟨h.inv.pivot (h.lt p hp) Oo a2,λi hi=>?_,λi hi k hk e=>?_,λi hi=>?_,λi h1 h2=>?_,λi hi j U=>?_,λi h1 h2 j U=>?_,λi hi=>?_,λi hi=>?_⟩
 ·unfold swp;split
  ·exact h.lt p hp
  ·split
   ·exact h.lt c hc
   ·exact h.lt i hi
 ·by_cases K:i=c
  ·by_cases O:k=c
   ·omega
   ·exfalso;rw[show swp s c p i=s p from if_pos K]at e;exact M k hk O e.symm
  ·by_cases O:k=c
   ·exfalso;rw[show swp s c p k=s p from if_pos O]at e;exact M i hi K e
   ·unfold swp at e;rw[if_neg K,if_neg O]at e;by_cases e3:i=p
    ·by_cases e4:k=p
     ·omega
     ·rw[if_pos e3,if_neg e4]at e;exact absurd (h.inj c hc k hk e) Oo
    ·by_cases e4:k=p
     ·rw[if_neg e3,if_pos e4]at e;exact absurd (h.inj i hi c hc e) Oo
     ·rw[if_neg e3,if_neg e4]at e;exact h.inj i hi k hk e
 ·by_cases K:i=c
  ·rw[show swp s c p i=s p from if_pos K];show(if s p=s p then c else _)=i;rw[if_pos rfl,K]
  ·have h3:=M i Oo K;show(if swp s c p i=s p then c else B (swp s c p i))=i;rw[if_neg h3,show swp s c p i=s i by unfold swp;rw[if_neg K,if_neg Oo]];exact h.done i Oo
 ·have h3:=M i h2 Oo;show(if swp s c p i=s p then c else B (swp s c p i))=n+swp s c p i;rw[if_neg h3];unfold swp;rw[if_neg Oo];split
  ·exact h.todo c Oo hc
  ·exact h.todo i Oo h2
 ·by_cases K:i=c
  ·subst K;rw[show elim (swpR R i p) i i j=swpR R i p i j from if_pos (Or.inl rfl),a5 j U,if_pos rfl,show swp s i p i=s p from if_pos rfl];rw[show pivT T (s p) i (s p) (cl n j)=T (s p) (cl n j) / T (s p) i from if_pos rfl];grind
  ·rw[a4 i Oo K j U,if_pos Oo,if_neg K]
 ·rw[a4 i h2 Oo j U,if_neg Oo];grind
 ·split
  ·exact a2
  ·exact h.pivne i Oo
 ·split
  ·exact⟨D,a9,b0,b7 (s p) (h.lt p hp) c Oo⟩
  ·exact h.pivsm i Oo
theorem gj_stuck{n c:Nat}{R0 R T:Nat->Nat->Rat}{B s:Nat->Nat}{piv:Nat->Rat}(h:GJ n c R0 R T B s piv)(hc:c < n)(hz:∀p,c<=p->p < n->R p c=0):
 ∃d:Nat->Rat,d c=1/\∀r,r < n->sm n (λj=>R0 r j*d j)=0:=by
 have U:∀i,i < n->(∃k,k < n/\s k=i):=by
  intro i hi;by_cases hex:∃k,k < n/\s k=i
  ·exact hex
  ·exfalso;have I:∀k,k < n->s k≠i:=λk O e=>hex ⟨k,O,e⟩;obtain⟨n',rfl⟩:∃n',n=n'+1:=⟨n - 1,Oo⟩
   obtain⟨p,q,K,h2,h3⟩:=V7 n' (λk=>qt i (s k)) (λk O=>by
    have K:=h.lt k Oo;have h2:=I k Oo;show qt i (s k) < n';unfold qt;split <;> omega)
   have h4:=I p Oo;have h5:=I q Oo
   have h6:s p=s q:=by
    have M:qt i (s p)=qt i (s q):=h3;unfold qt at M;split at M <;> split at M <;> omega
   have:=h.inj p Oo q Oo h6;omega
 have a2:∀p,c<=p->p < n->T (s p) c=0:=by
  intro p K h2;have:=h.rowt p K h2 c Oo;rw[hz p K h2,show cl n c=c from if_neg Oo]at this;exact this.symm
 have a3:∀i,i < n->B i≠c:=by
  intro i hi e;obtain⟨k,O,rfl⟩:=U i hi;by_cases V:k < c
  ·rw[h.done k V]at e;omega
  ·rw[h.todo k Oo O]at e;omega
 refine⟨ray n T B c,?_,λr hr=>?_⟩
 ·unfold ray;rw[if_pos rfl,val_not a3];grind
 ·have K:=h.inv.hom_ray (show c < n+n by omega) r hr;rw[sm_app]at K
  have e1:sm n (λi=>ray n T B c (n+i)*solveA n R0 (n+i) r)=0:=by
   refine sm_zero (λi hi=>?_)
   have:ray n T B c (n+i)=0:=by
    unfold ray;rw[if_neg Oo]
    have:val n (λi=>- T i c) B (n+i)=0:=by
     refine sm_zero (λk O=>?_);split
     ·rename_i e;obtain⟨q,hq,rfl⟩:=U k O;by_cases V:q < c
      ·rw[h.done q V]at e;omega
      ·show - T (s q) c=0;rw[a2 q Oo hq];grind
     ·rfl
    rw[this];grind
   rw[this];grind
  rw[e1]at K
  have V:sm n (λj=>R0 r j*ray n T B c j)=sm n (λj=>ray n T B c j*solveA n R0 j r):=sm_congr (λj hj=>by
   unfold solveA;rw[if_pos hj];grind)
  rw[V];grind
theorem gj_end{n:Nat}{R0 R T:Nat->Nat->Rat}{B s:Nat->Nat}{piv:Nat->Rat}(h:GJ n n R0 R T B s piv):
 (∀i,i < n->R i i≠0/\R i n / R i i=T (s i) (n+n))/\
 ∀x:Nat->Rat,(∀r,r < n->sm n (λj=>R0 r j*x j)=R0 r n)->∀i,i < n->x i=T (s i) (n+n):=by
 have O:∀i,i < n->∀j,j < n->T (s i) j=if i=j then 1 else 0:=by
  intro i hi j I;have:=h.inv.unit (s i) (h.lt i hi) (s j) (h.lt j I);rw[h.done j I]at this;rw[this];by_cases e:i=j
  ·rw[if_pos e,if_pos (by rw[e])]
  ·rw[if_neg e,if_neg (λK=>e (h.inj i hi j I K))]
 refine⟨λi hi=>?_,λx hx i hi=>?_⟩
 ·have M:=h.rowd i hi i Oo;have h2:=h.rowd i hi n (bK _);rw[show cl n i=i from if_neg Oo,O i hi i hi,if_pos rfl]at M;rw[show cl n n=n+n from if_pos rfl]at h2;have h3:=h.pivne i hi;rw[M,h2];constructor <;> grind
 ·have hs:Sol n (n+n) (solveA n R0) (λj=>if j < n then x j else 0):=by
   intro r hr;rw[sm_app]
   have U:sm n (λj=>(if j < n then x j else 0)*solveA n R0 j r)=sm n (λj=>R0 r j*x j):=sm_congr (λj I=>by
    unfold solveA;rw[if_pos I,if_pos I];grind)
   have K:sm n (λi=>(if n+i < n then x (n+i) else 0)*solveA n R0 (n+i) r)=0:=sm_zero (λi _=>by rw[if_neg Oo];grind);rw[U,K,hx r hr];unfold solveA;rw[if_neg Oo,if_neg Oo];grind
  have M:=h.inv.sol_rows hs (s i) (h.lt i hi);rw[<-M,sm_app]
  have U:sm n (λj=>T (s i) j*(if j < n then x j else 0))=x i:=by
   rw[sm_single (k:=i) hi]
   ·rw[O i hi i hi,if_pos rfl,if_pos hi];grind
   ·intro j I V;rw[O i hi j I,if_neg (λe=>V e.symm)];grind
  have K:sm n (λk=>T (s i) (n+k)*(if n+k < n then x (n+k) else 0))=0:=sm_zero (λk _=>by rw[if_neg Oo];grind);rw[U,K];grind
end Go.Proofs.YtkaipapdlnojiaaGreat.Cov
namespace Go.Proofs.YtkaipapdlnojiaaGreat.Meet
def Asc(l:List Int):Prop:=∀i j,i < j->j < l.length->l.getD i 0 < l.getD j 0
def upd(p:Nat->Nat)(i q:Nat):Nat->Nat:=λk=>if k=i then q else p k
end Go.Proofs.YtkaipapdlnojiaaGreat.Meet
namespace Go.Proofs.YtkaipapdlnojiaaGreat.Cov
theorem UH{v:Rat}{u:Nat}{x y:Nat->Rat}(h:Lex (key v u x) (key v u y)):v*sm u x<=v*sm u y:=by
 rcases h with h|⟨h,-⟩
 ·grind
 ·grind
theorem Qu{m n:Nat}{A:Nat->Nat->Rat}:∀(l:List (Nat->Rat)) {bar:Nat->Bool} {s:Sx},Good m n A bar s->(∀c∈l,∃L:Rat,∀x,F m n A bar x->L<=dot n c x)->∃I s',Aims m n l bar s I s'
 |[],bar,s,_,_=>⟨bar,s,⟨rfl,rfl⟩⟩
 |c::l,bar,s,h,hb=>by
  obtain⟨b1,U,O⟩:=qAY c h;obtain⟨L,V⟩:=hb c (List.mem_cons_self ..);obtain⟨g1,g2,g3⟩:=Good.aim h O L V
  obtain⟨b2,s2,h2⟩:=Qu l g1 (λc' K=>by
   obtain⟨L',M⟩:=hb c' (mC _ K);exact⟨L',λx hx=>M x (g2 x hx).1⟩)
  exact⟨b2,s2,b1,U,O,h2⟩
theorem qAc{n:Nat}{c x:Nat->Rat}(K:∀j,j < n->0<=c j)(M:∀j,j < n->0<=x j):0<=dot n c x:=
 sm_nonneg (λj I=>Rat.mul_nonneg (K j I) (M j I))
theorem ku(a b j:Nat):0<=cf a b 1 j:=by
 unfold cf;split
 ·decide
 ·exact Rat.le_refl
theorem least_cover{m u:Nat}{M:Nat->Nat->Rat}(O:∀r,r < m->∀e,e < u->0<=M r e)(K:∀r,r < m->∃e,e < u/\M r e=1):
 ∃bar s,Good m (u+m+m) (coverA m u M) bar s/\Cover m u M (xb m (u+m+m) s)/\∀y,Cover m u M y->Lex (key 1 u (xb m (u+m+m) s)) (key 1 u y):=by
 obtain⟨bar,s,h⟩:=Qu (m:=m) (n:=u+m+m) (A:=coverA m u M) (cf (u+m) (u+m+m) 1::cf 0 u 1::units u) cover_good (λc I=>by
  refine⟨0,λx U=>qAc (λj _=>?_) (λj V=>U.2.1 j V)⟩;rcases List.mem_cons.1 I with rfl|I
  ·exact ku _ _ _
  rcases List.mem_cons.1 I with rfl|I
  ·exact ku _ _ _
  obtain⟨k,-,rfl⟩:=List.mem_map.1 I;exact ku _ _ _)
 exact⟨bar,s,cover_least O K h⟩
theorem kept_sum{m u n:Nat}{M K:Nat->Nat->Rat}{rep up:Nat->Nat}{nz:Nat->Bool}
 (hK:∀r,r < m->∀p,p < n->K r p=M r (rep p)) (U:∀p,p < n->rep p < u)
 (hz:∀e,e < u->nz e=false->∀r,r < m->M r e=0)
 (V:∀e,e < u->nz e=true->up e < n/\∀r,r < m->M r e<=M r (rep (up e)))
 {x y:Nat->Rat} (hx:Cover m u M x) (a2:∀z,Cover m u M z->Lex (key 1 u x) (key 1 u z))
 (hy:Cover m n K y) (a3:∀z,Cover m n K z->Lex (key 1 n y) (key 1 n z)):sm u x=sm n y:=by
 have one:∀p,p < n->∀f:Nat->Rat,sm u (λe=>f e*(if rep p=e then y p else 0))=f (rep p)*y p:=by
  intro p hp f;rw[sm_single (k:=rep p) (U p hp)]
  ·simp
  ·intro i _ hi;have:rep p≠i:=λh=>hi h.symm;simp[this]
 have two:∀f:Nat->Rat,sm u (λe=>f e*sm n (λp=>if rep p=e then y p else 0))=sm n (λp=>f (rep p)*y p):=by
  intro f
  have e1:sm u (λe=>f e*sm n (λp=>if rep p=e then y p else 0))=sm u (λe=>sm n (λp=>f e*(if rep p=e then y p else 0))):=
   sm_congr (λe _=>(sm_mul n (f e) _).symm)
  rw[e1,uJ];exact sm_congr (λp hp=>one p hp f)
 have c1:Cover m u M (λe=>sm n (λp=>if rep p=e then y p else 0)):=by
  refine⟨λe _=>sm_nonneg (λp hp=>?_),λr hr=>?_⟩
  ·split
   ·exact hy.1 p hp
   ·exact Rat.le_refl
  ·show 1<=sm u (λe=>M r e*sm n (λp=>if rep p=e then y p else 0));rw[two (M r)];have:=hy.2 r hr;rw[sm_congr (λp hp=>by rw[hK r hr p hp])]at this;exact this
 have s1:sm u (λe=>sm n (λp=>if rep p=e then y p else 0))=sm n y:=by
  have:=two (λ_=>1);rw[sm_congr (g:=λe=>sm n (λp=>if rep p=e then y p else 0)) (λe _=>Rr),sm_congr (n:=n) (g:=y) (λe _=>Rr)]at this;exact this
 have l1:sm u x<=sm n y:=by
  have:=UH (a2 _ c1);rw[s1]at this;grind
 have three:∀f:Nat->Rat,sm n (λp=>f p*sm u (λe=>if nz e=true/\up e=p then x e else 0))=sm u (λe=>if nz e=true then f (up e)*x e else 0):=by
  intro f
  have e1:sm n (λp=>f p*sm u (λe=>if nz e=true/\up e=p then x e else 0))=sm n (λp=>sm u (λe=>f p*(if nz e=true/\up e=p then x e else 0))):=
   sm_congr (λp _=>(sm_mul u (f p) _).symm)
  rw[e1,uJ];refine sm_congr (λe O=>?_);by_cases I:nz e=true
  ·rw[if_pos I,sm_single (k:=up e) (V e O I).1]
   ·simp[I]
   ·intro p _ hp;have:¬(nz e=true/\up e=p):=λh=>hp h.2.symm;rw[if_neg this];grind
  ·rw[if_neg I];refine sm_zero (λp _=>?_);rw[if_neg (λh=>I h.1)];grind
 have c2:Cover m n K (λp=>sm u (λe=>if nz e=true/\up e=p then x e else 0)):=by
  refine⟨λp _=>sm_nonneg (λe O=>?_),λr hr=>?_⟩
  ·split
   ·exact hx.1 e O
   ·exact Rat.le_refl
  ·show 1<=sm n (λp=>K r p*sm u (λe=>if nz e=true/\up e=p then x e else 0));rw[three (K r)];have h1:=hx.2 r hr
   have h2:sm u (λe=>M r e*x e)<=sm u (λe=>if nz e=true then K r (up e)*x e else 0):=by
    refine qAX (λe O=>?_);by_cases I:nz e=true
    ·rw[if_pos I];obtain⟨a4,a5⟩:=V e O I;rw[hK r hr _ a4];have h3:=a5 r hr;have h4:=hx.1 e O;exact Rat.mul_le_mul_of_nonneg_right h3 h4
    ·rw[if_neg I,hz e O (by simpa using I) r hr];grind
   grind
 have l2:sm n y<=sm u x:=by
  have:=UH (a3 _ c2);have h2:=three (λ_=>1)
  have h3:sm u (λe=>if nz e=true then 1*x e else 0)<=sm u x:=by
   refine qAX (λe O=>?_);by_cases I:nz e=true
   ·rw[if_pos I];grind
   ·rw[if_neg I];exact hx.1 e O
  rw[sm_congr (n:=n) (g:=λp=>sm u (λe=>if nz e=true/\up e=p then x e else 0)) (λe _=>Rr)]at h2;grind
 grind
end Go.Proofs.YtkaipapdlnojiaaGreat.Cov
namespace Go.Proofs.YtkaipapdlnojiaaGreat.Elim
def Rc(A:Nat->Nat->Bool)(E:Nat->Prop)(a b:Nat):Prop:=∀R:Nat->Nat->Prop,(∀a b,A a b=true->R a b)->(∀a c b,R a c->E c->A c b=true->R a b)->R a b
variable {A:Nat->Nat->Bool} {E E':Nat->Prop}
theorem Rc.one{a b:Nat}(h:A a b=true):Rc A E a b:=λ_ k _=>k _ _ h
theorem Rc.more{a c b:Nat}(h:Rc A E a c)(hE:E c)(h2:A c b=true):Rc A E a b:=λR k1 k2=>k2 _ _ _ (h R k1 k2) hE h2
theorem Rc.ind{M:Nat->Nat->Prop}(k1:∀a b,A a b=true->M a b)(k2:∀a c b,M a c->E c->A c b=true->M a b){a b:Nat}(r:Rc A E a b):M a b:=r M k1 k2
theorem Rc.mono(h:∀x,E x->E' x){a b:Nat}(r:Rc A E a b):Rc A E' a b:=r.ind (M:=λa b=>Rc A E' a b) (λ_ _ h1=>.one h1) λ_ _ _ ih hE h2=>.more ih (h _ hE) h2
theorem Rc.trans{a c b:Nat}(r:Rc A E a c)(I:E c)(s:Rc A E c b):Rc A E a b:=s.ind (M:=λc' b=>c'=c->Rc A E a b) (λ_ _ h1 e=>.more r I (e▸h1)) (λ_ _ _ ih hE h2 e=>.more (ih e) hE h2) rfl
theorem Rc.symm(I:∀a b,A a b=A b a){a b:Nat}(r:Rc A E a b):Rc A E b a:=r.ind (M:=λa b=>Rc A E b a) (λ_ _ K=>.one (by rw[I];exact K)) λ_ _ _ ih hE h2=>(Rc.one (by rw[I];exact h2)).trans hE ih
theorem Rc.add{v a b:Nat}(r:Rc A (λx=>E x∨x=v) a b):Rc A E a b∨(Rc A E a v/\Rc A E v b):=by
 refine r.ind (M:=λa b=>Rc A E a b∨(Rc A E a v/\Rc A E v b)) (λ_ _ O=>Or.inl (.one O)) λa c b M I h2=>?_
 rcases I with I|rfl
 ·rcases M with h|⟨K,U⟩
  ·exact Or.inl (.more h I h2)
  ·exact Or.inr ⟨K,.more U I h2⟩
 ·rcases M with h|⟨K,-⟩
  ·exact Or.inr ⟨h,.one h2⟩
  ·exact Or.inr ⟨K,.one h2⟩
theorem Rc.of_add{v a b:Nat}(r:Rc A E a b∨(Rc A E a v/\Rc A E v b)):Rc A (λx=>E x∨x=v) a b:=by
 rcases r with h|⟨I,K⟩
 ·exact h.mono (λ_=>Or.inl)
 ·exact(I.mono (λ_=>Or.inl)).trans (Or.inr rfl) (K.mono (λ_=>Or.inl))
def qF7(v:Nat)(g:Nat->Nat->Bool)(a b:Nat):Bool:=(b != v)&&(g a b||(g v a&&g v b))
def gAt(A:Nat->Nat->Bool)(o:Nat->Nat):Nat->Nat->Nat->Bool
 |0=>A
 |i+1=>qF7 (o i) (gAt A o i)
theorem Xk{o:Nat->Nat}:∀{i:Nat} {a b:Nat},(∃j,j < i/\o j=b)->gAt A o i a b=false
 |0,_,_,⟨j,hj,_⟩=>Oo
 |i+1,a,b,⟨j,hj,e⟩=>by
  show((b != o i)&&_)=false;by_cases h:j=i
  ·subst h;subst e;simp
  ·have I:gAt A o i a b=false:=Xk ⟨j,Oo,e⟩;have K:gAt A o i (o i) b=false:=Xk ⟨j,Oo,e⟩;simp[I,K]
theorem Qf(O:∀a b,A a b=A b a){o:Nat->Nat}:∀{i:Nat} {a b:Nat},(∀j,j < i->o j≠a)->(∀j,j < i->o j≠b)->(∀j k,j < k->k < i->o j≠o k)->
 (gAt A o i a b=true↔Rc A (λx=>∃j,j < i/\o j=x) a b)
 |0,a,b,_,_,_=>by
  constructor
  ·intro h;exact .one h
  ·intro h;exact h.ind (M:=λa b=>A a b=true) (λ_ _ h=>h) λ_ _ _ _ hE _=>by obtain⟨j,I,_⟩:=hE;omega
 |i+1,a,b,ha,hb,ho=>by
  have V:=Qf O (o:=o) (i:=i) (a:=a) (b:=b) (λj I=>ha j Oo) (λj I=>hb j Oo) (λj k K M=>ho j k K Oo);have i2:=Qf O (o:=o) (i:=i) (a:=o i) (b:=a) (λj I=>ho j i I Oo) (λj I=>ha j Oo) (λj k K M=>ho j k K Oo);have i3:=Qf O (o:=o) (i:=i) (a:=o i) (b:=b) (λj I=>ho j i I Oo) (λj I=>hb j Oo) (λj k K M=>ho j k K Oo)
  have e:(λx=>∃j,j < i+1/\o j=x)=λx=>(∃j,j < i/\o j=x)∨x=o i:=by
   funext x;apply propext;constructor
   ·rintro⟨j,I,e⟩;by_cases h:j=i
    ·subst h;exact Or.inr e.symm
    ·exact Or.inl ⟨j,Oo,e⟩
   ·rintro (⟨j,I,e⟩|h)
    ·exact⟨j,Oo,e⟩
    ·exact⟨i,Oo,h.symm⟩
  rw[e];have U:b≠o i:=λh=>hb i Oo h.symm;show((b != o i)&&(gAt A o i a b||(gAt A o i (o i) a&&gAt A o i (o i) b)))=true↔_;rw[show(b != o i)=true by simpa using U,Bool.true_and,Bool.or_eq_true,bA,V,i2,i3];constructor
  ·rintro (h|⟨K,M⟩)
   ·exact Rc.of_add (Or.inl h)
   ·exact Rc.of_add (Or.inr ⟨K.symm O,M⟩)
  ·intro h;rcases h.add with h|⟨K,M⟩
   ·exact Or.inl h
   ·exact Or.inr ⟨K.symm O,M⟩
theorem bag_iff(M:∀a b,A a b=A b a){o:Nat->Nat}{i b:Nat}(K:∀j k,j < k->k < i+1->o j≠o k)(hs:A (o i) (o i)=true):
 gAt A o i (o i) b=true↔(∀j,j < i->o j≠b)/\(b=o i∨Rc A (λx=>∃j,j < i+1/\o j=x) (o i) b):=by
 have e:(λx=>∃j,j < i+1/\o j=x)=λx=>(∃j,j < i/\o j=x)∨x=o i:=by
  funext x;apply propext;constructor
  ·rintro⟨j,I,e⟩;by_cases h:j=i
   ·subst h;exact Or.inr e.symm
   ·exact Or.inl ⟨j,Oo,e⟩
  ·rintro (⟨j,I,e⟩|h)
   ·exact⟨j,Oo,e⟩
   ·exact⟨i,Oo,h.symm⟩
 rw[e];by_cases hb:∀j,j < i->o j≠b
 ·rw[Qf M (λj I=>K j i I Oo) hb (λj k O V=>K j k O Oo)];constructor
  ·intro h;exact⟨hb,Or.inr (Rc.of_add (Or.inl h))⟩
  ·rintro⟨-,rfl|h⟩
   ·exact .one hs
   ·rcases h.add with h|⟨-,h⟩
    ·exact h
    ·exact h
 ·constructor
  ·intro h
   have:∃j,j < i/\o j=b:=by
    refine Classical.byContradiction λU=>hb λj I e=>U ⟨j,I,e⟩
   rw[Xk this]at h;cases h
  ·rintro⟨h,-⟩;exact absurd h hb
end Go.Proofs.YtkaipapdlnojiaaGreat.Elim
namespace Go.Proofs.YtkaipapdlnojiaaGreat.Cov
end Go.Proofs.YtkaipapdlnojiaaGreat.Cov
namespace Go.Proofs.YtkaipapdlnojiaaGreat.Agm
def pr:List Rat->Rat
 |[]=>1
 |x::l=>x*pr l
def sr:List Rat->Rat
 |[]=>0
 |x::l=>x+sr l
theorem uN{x:Rat}(h:0<=x):∀n:Nat,0<=x ^ n
 |0=>by rw[Rat.pow_zero];decide
 |n+1=>by rw[Rat.pow_succ];exact Rat.mul_nonneg (uN h n) h
theorem Q7{a b c d:Rat}(K:0<=a)(I:0<=c)(M:a<=b)(O:c<=d):a*c<=b*d:=by
 have U:=Rat.mul_nonneg I (show 0<=b - a by grind);have V:=Rat.mul_nonneg (show 0<=b by grind) (show 0<=d - c by grind);grind
theorem Q8{x y:Rat}(h:0<=x)(I:x<=y):∀n:Nat,x ^ n<=y ^ n
 |0=>by rw[Rat.pow_zero,Rat.pow_zero];exact Rat.le_refl
 |n+1=>by
  rw[Rat.pow_succ,Rat.pow_succ];exact Q7 (uN h n) h (Q8 h I n) I
theorem qF3(x:Rat):0<=x*x:=by
 rcases Rat.le_total (a:=0) (b:=x)with h|h
 ·exact Rat.mul_nonneg h h
 ·have:=Rat.mul_nonneg (show 0<=-x by grind) (show 0<=-x by grind);grind
theorem qGA(n:Nat){u m:Rat}(I:0<=u)(K:0<=m):((n:Rat)+1)*u*m ^ n<=u ^ (n+1)+(n:Rat)*m ^ (n+1):=by
 induction n with
 |zero=>simp[Rat.pow_succ,Rat.pow_zero];grind
 |succ n ih=>
  have M:=Rat.mul_nonneg I (show 0<=u ^ (n+1)+(n:Rat)*m ^ (n+1) - ((n:Rat)+1)*u*m ^ n by grind)
  have O:(0:Rat)<=(n:Rat)+1:=by
   have:(0:Rat)<=(n:Rat):=by exact_mod_cast nZ n
   grind
  have U:=Rat.mul_nonneg (Rat.mul_nonneg O (uN K n)) (qF3 (u - m));have e:((n+1:Nat):Rat)=(n:Rat)+1:=by push_cast;rfl
  rw[e,Rat.pow_succ u (n+1),Rat.pow_succ m (n+1),Rat.pow_succ m n];rw[Rat.pow_succ u n]at *;rw[Rat.pow_succ m n]at M;grind
theorem ya(n:Nat):(0:Rat)<=(n:Rat):=by exact_mod_cast nZ n
theorem Vi:∀{l:List Rat},(∀x∈l,0<=x)->0<=sr l
 |[],_=>Rat.le_refl
 |x::l,h=>by
  have K:=h x List.mem_cons_self;have M:=Vi (l:=l) λy I=>h y (mC _ I);show 0<=x+sr l;grind
theorem qAQ:∀{l:List Rat},(∀x∈l,0<=x)->0<=pr l
 |[],_=>by show(0:Rat)<=1;decide
 |x::l,h=>Rat.mul_nonneg (h x List.mem_cons_self) (qAQ (l:=l) λy I=>h y (mC _ I))
theorem qFF:∀{l:List Rat} {m:Rat},(∀x∈l,0<=x)->0<=m->(l.length:Rat)*m=sr l->pr l<=m ^ l.length
 |[],m,_,_,_=>by show(1:Rat)<=m ^ 0;rw[Rat.pow_zero];exact Rat.le_refl
 |y::l,u,h,hu,e=>by
  have V:=h y List.mem_cons_self;have hl:∀x∈l,0<=x:=λx hx=>h x (mC _ hx)
  have K:((l.length:Rat)+1)*u=y+sr l:=by
   have:((y::l).length:Rat)=(l.length:Rat)+1:=by rw[List.length_cons];push_cast;rfl
   rw[this]at e;exact e
  show y*pr l<=u ^ (l.length+1);by_cases M:l.length=0
  ·have:l=[]:=List.eq_nil_of_length_eq_zero M;subst this;have e2:((([]:List Rat).length:Nat):Rat)=0:=rfl;rw[e2]at K;have e3:sr []=0:=rfl;have e4:pr []=1:=rfl;rw[e3]at K;rw[e4,List.length_nil,Rat.pow_succ,Rat.pow_zero];grind
  ·have hn:(0:Rat) < (l.length:Rat):=by exact_mod_cast Nat.pos_of_ne_zero M
   obtain⟨m,O⟩:∃m:Rat,m=sr l / (l.length:Rat):=⟨_,rfl⟩;have U:(l.length:Rat)*m=sr l:=by rw[O];grind
   have hs:=Vi hl
   have I:0<=m:=by
    rw[O,Rat.div_def];exact Rat.mul_nonneg hs (Rat.le_of_lt (Rat.inv_pos.2 hn))
   have ih:=qFF hl I U;have hb:=qGA l.length hu I;have h3:=Q7 (qAQ hl) V ih Rat.le_refl;rw[Rat.pow_succ m]at hb;have h4:((l.length:Rat)+1)*u*m ^ l.length=(y+(l.length:Rat)*m)*m ^ l.length:=by rw[K,U]
   rw[h4]at hb;grind
end Go.Proofs.YtkaipapdlnojiaaGreat.Agm
