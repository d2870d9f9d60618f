import Derived.Test.YtjbpgdpciinlcaaGreatBg01
set_option maxHeartbeats 40000000
set_option maxRecDepth 1000000
namespace Go.Proofs.YtjbpgdpciinlcaaGreat.Cov
structure Dm where
 a:Nat->Rat
 up:Bool
 b:Rat
def Dm.at(n:Nat)(D:Dm)(x:Nat->Rat):Rat:=sm n (fun i=>D.a i*x i)
def Dm.meets(n:Nat)(D:Dm)(x:Nat->Rat):Prop:=if D.up then D.at n x<=D.b else D.b<=D.at n x
def Kern(n:Nat)(S:List Dm):Prop:=∀d:Nat->Rat,(∀D∈S,D.at n d=0)->∀i,i < n->d i=0
theorem QG:∀(k a:Nat) (f:Nat->Rat),a < k+1->sm (k+1) f=f a+sm k (fun b=>f (skip a b))
 |k,a,f,h=>by
  by_cases e:a=k
  ·subst e;show sm a f+f a=f a+sm a (fun b=>f (skip a b));have:sm a f=sm a (fun b=>f (skip a b)):=sm_congr (fun i hi=>by rw[show skip a i=i from if_pos hi]);rw[<-this];grind
  ·obtain⟨k',rfl⟩:∃k',k=k'+1:=⟨k - 1,by omega⟩;have ih:=QG k' a f (by omega);show sm (k'+1) f+f (k'+1)=f a+(sm k' (fun b=>f (skip a b))+f (skip a k'));rw[ih,show skip a k'=k'+1 from if_neg (by omega)];grind
theorem Qb(a b:Nat):qh a (skip a b)=b:=by
 by_cases e:b < a
 ·rw[show skip a b=b from if_pos e];exact if_pos e
 ·rw[show skip a b=b+1 from if_neg e,show qh a (b+1)=b+1 - 1 from if_neg (by omega)];omega
theorem uH(n:Nat)(D:Dm)(x y:Nat->Rat)(t:Rat):D.at n (fun i=>x i+t*y i)=D.at n x+t*D.at n y:=by
 unfold Dm.at;have e:(fun i=>D.a i*(x i+t*y i))=fun i=>D.a i*x i+t*(D.a i*y i):=by funext i;grind
 rw[e,sm_add,sm_mul]
theorem qD4(n k:Nat)(D:Dm)(c:Nat->Rat)(E:Nat->Nat->Rat):D.at n (fun i=>sm k (fun a=>c a*E a i))=sm k (fun a=>c a*D.at n (E a)):=by
 unfold Dm.at
 have e:sm n (fun i=>D.a i*sm k (fun a=>c a*E a i))=sm n (fun i=>sm k (fun a=>c a*(D.a i*E a i))):=by
  refine sm_congr (fun i _=>?_);rw[<-sm_mul];exact sm_congr (fun a _=>by grind)
 rw[e,vm];exact sm_congr (fun a _=>sm_mul _ _ _)
theorem at_congr{n:Nat}(D:Dm){x y:Nat->Rat}(h:∀i,i < n->x i=y i):D.at n x=D.at n y:=
 sm_congr (fun i hi=>by rw[h i hi])
structure Compl(n:Nat)(L S:List Dm)(k:Nat)(E:Nat->Nat->Rat):Prop where
 len:S.length+k=n
 sub:S.Sublist L
 orth:∀D∈L,∀a,a < k->D.at n (E a)=0
 span:∀d:Nat->Rat,(∀D∈S,D.at n d=0)->∃c:Nat->Rat,∀i,i < n->d i=sm k (fun a=>c a*E a i)
 indep:∀c:Nat->Rat,(∀i,i < n->sm k (fun a=>c a*E a i)=0)->∀a,a < k->c a=0
theorem kT(n:Nat):∀L:List Dm,∃S k E,Compl n L S k E
 |[]=>by
  refine⟨[],n,fun a i=>if a=i then 1 else 0,by simp,List.Sublist.slnil,by simp,fun d _=>⟨d,fun i hi=>?_⟩,fun c h a ha=>?_⟩
  ·rw[uF hi];grind
  ·have:=h a ha;rw[uF ha]at this;grind
 |D::L=>by
  obtain⟨S,k,E,h⟩:=kT n L;by_cases hz:∀a,a < k->D.at n (E a)=0
  ·refine⟨S,k,E,h.len,h.sub.cons D,fun D' hD'=>?_,h.span,h.indep⟩;rcases List.mem_cons.1 hD' with rfl|hD'
   ·exact hz
   ·exact h.orth D' hD'
  ·obtain⟨a0,ha0⟩:=Classical.not_forall.1 hz;obtain⟨hlt,hne⟩:=Classical.not_imp.1 ha0;obtain⟨k',rfl⟩:∃k',k=k'+1:=⟨k - 1,by omega⟩;have hsk:∀b,b < k'->skip a0 b < k'+1:=fun b hb=>by unfold skip;split <;> omega
   refine⟨D::S,k',fun b i=>E (skip a0 b) i+(-(D.at n (E (skip a0 b)) / D.at n (E a0)))*E a0 i,by have:=h.len;simp;omega,h.sub.cons_cons D,fun D' hD' b hb=>?_,fun d hd=>?_,fun c hc b hb=>?_⟩
   ·rw[uH];rcases List.mem_cons.1 hD' with rfl|hD'
    ·grind
    ·rw[h.orth D' hD' _ (hsk b hb),h.orth D' hD' a0 hlt];grind
   ·obtain⟨c,hc⟩:=h.span d (fun D' hD'=>hd D' (mC _ hD'));refine⟨fun b=>c (skip a0 b),fun i hi=>?_⟩
    have h0:c a0*D.at n (E a0)+sm k' (fun b=>c (skip a0 b)*D.at n (E (skip a0 b)))=0:=by
     rw[<-QG k' a0 (fun a=>c a*D.at n (E a)) hlt,<-qD4,<-at_congr D hc];exact hd D List.mem_cons_self
    rw[hc i hi,QG k' a0 _ hlt];have e1:(fun b=>c (skip a0 b)*(E (skip a0 b) i+(-(D.at n (E (skip a0 b)) / D.at n (E a0)))*E a0 i))=fun b=>c (skip a0 b)*E (skip a0 b) i+(-(E a0 i / D.at n (E a0)))*(c (skip a0 b)*D.at n (E (skip a0 b))):=by funext b;grind
    rw[e1,sm_add,sm_mul];grind
   ·have hkey:=h.indep (fun a=>if a=a0 then -(sm k' (fun b=>c b*D.at n (E (skip a0 b)))) / D.at n (E a0) else c (qh a0 a)) (fun i hi=>by
     rw[QG k' a0 _ hlt,if_pos rfl]
     have e1:sm k' (fun b=>(if skip a0 b=a0 then -(sm k' (fun b=>c b*D.at n (E (skip a0 b)))) / D.at n (E a0) else c (qh a0 (skip a0 b)))*E (skip a0 b) i)=sm k' (fun b=>c b*E (skip a0 b) i):=by
      refine sm_congr (fun b _=>?_);rw[if_neg (by unfold skip;split <;> omega),Qb a0 b]
     rw[e1];have h2:=hc i hi;have e2:(fun b=>c b*(E (skip a0 b) i+(-(D.at n (E (skip a0 b)) / D.at n (E a0)))*E a0 i))=fun b=>c b*E (skip a0 b) i+(-(E a0 i / D.at n (E a0)))*(c b*D.at n (E (skip a0 b))):=by funext b;grind
     rw[e2,sm_add,sm_mul]at h2;grind) (skip a0 b) (hsk b hb)
    rw[if_neg (by unfold skip;split <;> omega),Qb a0 b]at hkey;exact hkey
theorem sq_nonneg(g:Rat):0<=g*g:=by
 by_cases h:0<=g
 ·exact Rat.mul_nonneg h h
 ·exact vd (by grind) (by grind)
theorem qCj(g:Rat):g<=g*g+1:=by
 have h0:=sq_nonneg g;by_cases h:g<=1
 ·grind
 ·have:=Rat.mul_nonneg (show 0<=g by grind) (show 0<=g - 1 by grind);grind
theorem ZY{t s g:Rat}(ht:0<=t)(hts:t<=s / (g*g+1)):t*g<=s/\t*(-g)<=s:=by
 have h0:=sq_nonneg g;have h1:=Rat.mul_nonneg (show 0<=s / (g*g+1) - t by grind) (show 0<=g*g+1 by grind);have h2:s / (g*g+1)*(g*g+1)=s:=by grind
 have h3:=Rat.mul_nonneg ht (show 0<=g*g+1 - g by have:=qCj g;grind);have h4:=Rat.mul_nonneg ht (show 0<=g*g+1+g by have:=qCj (-g);grind);constructor <;> grind
theorem ZZ(n:Nat)(d x:Nat->Rat):∀L:List Dm,(∀D∈L,D.meets n x/\(D.at n x=D.b->D.at n d=0))->
 ∃t:Rat,0 < t/\∀t',0<=t'->t'<=t->∀D∈L,D.meets n (fun i=>x i+t'*d i)/\D.meets n (fun i=>x i+(-t')*d i)
 |[],_=>⟨1,by decide,by simp⟩
 |D::L,h=>by
  obtain⟨t,ht,hL⟩:=ZZ n d x L (fun D' hD'=>h D' (mC _ hD'))
  have key:∃t0:Rat,0 < t0/\∀t',0<=t'->t'<=t0->D.meets n (fun i=>x i+t'*d i)/\D.meets n (fun i=>x i+(-t')*d i):=by
   obtain⟨h1,h2⟩:=h D List.mem_cons_self;by_cases e:D.at n x=D.b
   ·refine⟨1,by decide,fun t' _ _=>?_⟩;unfold Dm.meets;rw[uH,uH,h2 e,e];constructor <;> split <;> grind
   ·unfold Dm.meets at h1 ⊢;have hsq:=sq_nonneg (D.at n d);cases hu:D.up with
    |true=>
     rw[hu]at h1;simp only[if_true]at h1 ⊢;have hpos:0 < D.b - D.at n x:=by grind
     refine⟨(D.b - D.at n x) / (D.at n d*D.at n d+1),?_,fun t' h3 h4=>?_⟩
     ·rw[Rat.div_def];exact Rat.mul_pos hpos (Rat.inv_pos.2 (by grind))
     ·obtain⟨s1,s2⟩:=ZY h3 h4;rw[uH,uH];constructor <;> grind
    |false=>
     rw[hu]at h1;simp only[Bool.false_eq_true,if_false]at h1 ⊢;have hpos:0 < D.at n x - D.b:=by grind
     refine⟨(D.at n x - D.b) / (D.at n d*D.at n d+1),?_,fun t' h3 h4=>?_⟩
     ·rw[Rat.div_def];exact Rat.mul_pos hpos (Rat.inv_pos.2 (by grind))
     ·obtain⟨s1,s2⟩:=ZY h3 h4;rw[uH,uH];constructor <;> grind
  obtain⟨t0,ht0,hD⟩:=key;refine⟨if t<=t0 then t else t0,by split <;> assumption,fun t' h3 h4 D' hD'=>?_⟩
  have h5:t'<=t/\t'<=t0:=by
   split at h4 <;> constructor <;> grind
  rcases List.mem_cons.1 hD' with rfl|hD'
  ·exact hD t' h3 h5.2
  ·exact hL t' h3 h5.1 D' hD'
theorem VT{t:Rat}(ht:0 < t):∀(l e:List Rat),l.length=e.length->Lex l (List.zipWith (fun a b=>a+t*b) l e)->Lex l (List.zipWith (fun a b=>a+(-t)*b) l e)->∀z∈e,z=0
 |[],[],_,_,_,z,hz=>by cases hz
 |[],_::_,h,_,_,_,_=>by cases h
 |_::_,[],h,_,_,_,_=>by cases h
 |a::l,b::e,hl,h1,h2,z,hz=>by
  have h1':a < a+t*b∨(a=a+t*b/\Lex l (List.zipWith (fun a b=>a+t*b) l e)):=h1;have h2':a < a+(-t)*b∨(a=a+(-t)*b/\Lex l (List.zipWith (fun a b=>a+(-t)*b) l e)):=h2
  have hb:t*b=0/\Lex l (List.zipWith (fun a b=>a+t*b) l e)/\Lex l (List.zipWith (fun a b=>a+(-t)*b) l e):=by
   rcases h1' with h1'|⟨h1',h3⟩ <;> rcases h2' with h2'|⟨h2',h4⟩
   ·exfalso;grind
   ·exfalso;grind
   ·exfalso;grind
   ·exact⟨by grind,h3,h4⟩
  have hb0:b=0:=by
   rcases Rat.mul_eq_zero.1 hb.1 with e|e
   ·grind
   ·exact e
  rcases List.mem_cons.1 hz with rfl|hz
  ·exact hb0
  ·exact VT ht l e (by simpa using hl) hb.2.1 hb.2.2 z hz
theorem zip_map(f:Rat->Rat->Rat)(x d:Nat->Rat):∀R:List Nat,List.zipWith f (R.map x) (R.map d)=R.map fun k=>f (x k) (d k)
 |[]=>rfl
 |k::R=>by
  show f (x k) (d k)::List.zipWith f (R.map x) (R.map d)=_;rw[zip_map f x d R];rfl
theorem qCy(v:Rat)(u:Nat)(x d:Nat->Rat)(t:Rat):key v u (fun i=>x i+t*d i)=List.zipWith (fun a b=>a+t*b) (key v u x) (key v u d):=by
 show(v*sm u (fun i=>x i+t*d i))::_=(v*sm u x+t*(v*sm u d))::List.zipWith (fun a b=>a+t*b) ((List.range u).map x) ((List.range u).map d);rw[zip_map,sm_add,sm_mul];congr 1;grind
theorem corner_exists{n:Nat}{v:Rat}(all:List Dm)(x:Nat->Rat)(hx:∀D∈all,D.meets n x)(hmin:∀y,(∀D∈all,D.meets n y)->Lex (key v n x) (key v n y)):
 ∃S:List Dm,S.Sublist all/\S.length=n/\(∀D∈S,D.at n x=D.b)/\Kern n S:=by
 have dec:∀D:Dm,Decidable (D.at n x=D.b):=fun D=>Classical.propDecidable _;obtain⟨S,k,E,h⟩:=kT n (all.filter fun D=>@decide (D.at n x=D.b) (dec D));cases k with
 |zero=>
  refine⟨S,h.sub.trans List.filter_sublist,h.len,fun D hD=>?_,fun d hd i hi=>?_⟩
  ·have:=h.sub.subset hD;simpa using (List.mem_filter.1 this).2
  ·obtain⟨c,hc⟩:=h.span d hd;exact hc i hi
 |succ k=>
  exfalso;obtain⟨t,ht,hm⟩:=ZZ n (E 0) x all (fun D hD=>⟨hx D hD,fun e=>h.orth D (List.mem_filter.2 ⟨hD,by simpa using e⟩) 0 (by omega)⟩);have h1:=hmin _ (fun D hD=>(hm t (by grind) (by grind) D hD).1);have h2:=hmin _ (fun D hD=>(hm t (by grind) (by grind) D hD).2);rw[qCy]at h1 h2;have h3:=VT ht (key v n x) (key v n (E 0)) (by simp[key]) h1 h2
  have h4:∀i,i < n->E 0 i=0:=by
   intro i hi;refine h3 _ ?_;unfold key;exact mC _ (List.mem_map.2 ⟨i,by simpa using hi,rfl⟩)
  have h5:=h.indep (fun a=>if a=0 then 1 else 0) (fun i hi=>by
   rw[sm_single (k:=0) (by omega)]
   ·rw[h4 i hi];grind
   ·intro a _ hne;rw[if_neg hne];grind) 0 (by omega)
  simp at h5
end Go.Proofs.YtjbpgdpciinlcaaGreat.Cov
namespace Go.Proofs.YtjbpgdpciinlcaaGreat.Cov
theorem qAn{m n o:Nat}{A:Nat->Nat->Rat}(ho:o+m<=n)(hunit:∀i,i < m->∀r,r < m->A (o+i) r=if i=r then 1 else 0):
 Inv m n A (fun i j=>A j i) (fun i=>o+i):=by
 refine⟨fun i hi=>by show o+i < n;omega,fun i hi k hk=>?_,fun j hj r hr=>?_,?_⟩
 ·show A (o+k) i=_;rw[hunit k hk i hi];by_cases e:i=k
  ·rw[if_pos e,if_pos e.symm]
  ·rw[if_neg e,if_neg (fun h=>e h.symm)]
 ·show A j r=sm m (fun i=>A j i*A (o+i) r);rw[sm_single (k:=r) hr]
  ·rw[hunit r hr r hr,if_pos rfl];grind
  ·intro i hi hne;rw[hunit i hi r hr,if_neg hne];grind
 ·rw[uY (N:=fun j i=>if j=i then 1 else 0) (fun j hj i hi=>hunit j hj i hi),XL];grind
def solveA(n:Nat)(R0:Nat->Nat->Rat):Nat->Nat->Rat:=fun j r=>if j < n then R0 r j else if j < n+n then (if j - n=r then 1 else 0) else R0 r n
def cl(n j:Nat):Nat:=if j=n then n+n else j
structure GJ(n c:Nat)(R0 R:Nat->Nat->Rat)(T:Nat->Nat->Rat)(B s:Nat->Nat)(piv:Nat->Rat):Prop where
 inv:Inv n (n+n) (solveA n R0) T B
 lt:∀i,i < n->s i < n
 inj:∀i,i < n->∀k,k < n->s i=s k->i=k
 done:∀i,i < c->B (s i)=i
 todo:∀i,c<=i->i < n->B (s i)=n+s i
 rowd:∀i,i < c->∀j,j<=n->R i j=piv i*T (s i) (cl n j)
 rowt:∀i,c<=i->i < n->∀j,j<=n->R i j=T (s i) (cl n j)
 pivne:∀i,i < c->piv i≠0
 pivsm:∀i,i < c->∃D:Int,D≠0/\D.natAbs<=fac n/\Whole (fac n) (piv i*D)
theorem gj_start(n:Nat)(R0:Nat->Nat->Rat):GJ n 0 R0 R0 (fun i j=>solveA n R0 j i) (fun i=>n+i) (fun i=>i) (fun _=>1):=by
 refine⟨qAn (nR _) (fun i hi r hr=>?_),fun i hi=>hi,fun i _ k _ h=>h,fun i hi=>by omega,fun i _ _=>rfl,fun i hi=>by omega,fun i _ hi j hj=>?_,fun i hi=>by omega,fun i hi=>by omega⟩
 ·unfold solveA;rw[if_neg (by omega),if_pos (by omega),show n+i - n=i by omega]
 ·unfold solveA cl;by_cases e:j=n
  ·rw[if_pos e,if_neg (by omega),if_neg (by omega),e]
  ·rw[if_neg e,if_pos (by omega)]
def swp(s:Nat->Nat)(c p:Nat):Nat->Nat:=fun i=>if i=c then s p else if i=p then s c else s i
def swpR(R:Nat->Nat->Rat)(c p:Nat):Nat->Nat->Rat:=fun i=>if i=c then R p else if i=p then R c else R i
def elim(R:Nat->Nat->Rat)(c:Nat):Nat->Nat->Rat:=fun i j=>if i=c∨R i c=0∨j < c then R i j else R i j - R i c / R c c*R c j
theorem gj_step{n c p:Nat}{R0 R T:Nat->Nat->Rat}{B s:Nat->Nat}{piv:Nat->Rat}(h:GJ n c R0 R T B s piv)(hw:∀j,j<=n->∀r,r < n->Whole 1 (R0 r j))(hcp:c<=p)(hp:p < n)(hne:R p c≠0):
 GJ n (c+1) R0 (elim (swpR R c p) c) (pivT T (s p) c) (pivB B (s p) c) (swp s c p) (fun i=>if i=c then T (s p) c else piv i):=by
 have hTc:T (s p) c=R p c:=by
  rw[h.rowt p hcp hp c (by omega)];unfold cl;rw[if_neg (by omega)]
 have hTne:T (s p) c≠0:=by rw[hTc];exact hne
 have hc:c < n:=by omega
 have hinj:∀i,i < n->i≠c->swp s c p i≠s p:=by
  intro i hi hic e;unfold swp at e;rw[if_neg hic]at e;by_cases e2:i=p
  ·rw[if_pos e2]at e;have:=h.inj c hc p hp e;omega
  ·rw[if_neg e2]at e;exact e2 (h.inj i hi p hp e)
 have hR1:∀i,i < n->i≠c->∀j,j<=n->swpR R c p i j=(if i < c then piv i else 1)*T (swp s c p i) (cl n j):=by
  intro i hi hic j hj;unfold swpR swp;rw[if_neg hic,if_neg hic];by_cases e2:i=p
  ·rw[if_pos e2,if_pos e2,if_neg (by omega),h.rowt c (by omega) hc j hj];grind
  ·rw[if_neg e2,if_neg e2];by_cases e3:i < c
   ·rw[if_pos e3,h.rowd i e3 j hj]
   ·rw[if_neg e3,h.rowt i (by omega) hi j hj];grind
 have hRc:∀j,j<=n->swpR R c p c j=T (s p) (cl n j):=by
  intro j hj;unfold swpR;rw[if_pos rfl,h.rowt p hcp hp j hj]
 have hclc:cl n c=c:=if_neg (by omega)
 have hrow:∀i,i < n->i≠c->∀j,j<=n->elim (swpR R c p) c i j=(if i < c then piv i else 1)*pivT T (s p) c (swp s c p i) (cl n j):=by
  intro i hi hic j hj;unfold pivT;rw[if_neg (hinj i hi hic)];unfold elim;by_cases e1:swpR R c p i c=0
  ·rw[if_pos (Or.inr (Or.inl e1)),hR1 i hi hic j hj];rw[hR1 i hi hic c (by omega),hclc]at e1;by_cases e3:i < c
   ·rw[if_pos e3]at e1 ⊢;have:=h.pivne i e3;rcases Rat.mul_eq_zero.1 e1 with e|e
    ·exact absurd e this
    ·rw[e];grind
   ·rw[if_neg e3]at e1 ⊢;have:T (swp s c p i) c=0:=by grind
    rw[this];grind
  ·by_cases e2:j < c
   ·rw[if_pos (Or.inr (Or.inr e2)),hR1 i hi hic j hj]
    have hz:T (s p) (cl n j)=0:=by
     rw[show cl n j=j from if_neg (by omega)];have:=h.inv.unit (s p) (h.lt p hp) (s j) (h.lt j (by omega));rw[h.done j e2,if_neg (fun e=>by have:=h.inj p hp j (by omega) e;omega)]at this;exact this
    rw[hz];grind
   ·rw[if_neg (fun e=>by rcases e with e|e|e;exact hic e;exact e1 e;exact e2 e),hR1 i hi hic j hj,hR1 i hi hic c (by omega),hRc c (by omega),hRc j hj,hclc];grind
 obtain⟨D,hD0,hDb,hDw⟩:=h.inv.small (fun j hj r hr=>by
  unfold solveA;split
  ·exact hw j (by omega) r hr
  ·split
   ·split
    ·exact⟨1,rfl,by decide⟩
    ·exact⟨0,rfl,by decide⟩
   ·exact hw n (nR _) r hr)
 refine⟨h.inv.pivot (h.lt p hp) (by omega) hTne,fun i hi=>?_,fun i hi k hk e=>?_,fun i hi=>?_,fun i h1 h2=>?_,fun i hi j hj=>?_,fun i h1 h2 j hj=>?_,fun i hi=>?_,fun i hi=>?_⟩
 ·unfold swp;split
  ·exact h.lt p hp
  ·split
   ·exact h.lt c hc
   ·exact h.lt i hi
 ·by_cases e1:i=c
  ·by_cases e2:k=c
   ·omega
   ·exfalso;rw[show swp s c p i=s p from if_pos e1]at e;exact hinj k hk e2 e.symm
  ·by_cases e2:k=c
   ·exfalso;rw[show swp s c p k=s p from if_pos e2]at e;exact hinj i hi e1 e
   ·unfold swp at e;rw[if_neg e1,if_neg e2]at e;by_cases e3:i=p
    ·by_cases e4:k=p
     ·omega
     ·rw[if_pos e3,if_neg e4]at e;exact absurd (h.inj c hc k hk e) (by omega)
    ·by_cases e4:k=p
     ·rw[if_neg e3,if_pos e4]at e;exact absurd (h.inj i hi c hc e) (by omega)
     ·rw[if_neg e3,if_neg e4]at e;exact h.inj i hi k hk e
 ·by_cases e1:i=c
  ·rw[show swp s c p i=s p from if_pos e1];show(if s p=s p then c else _)=i;rw[if_pos rfl,e1]
  ·have h3:=hinj i (by omega) e1;show(if swp s c p i=s p then c else B (swp s c p i))=i;rw[if_neg h3,show swp s c p i=s i by unfold swp;rw[if_neg e1,if_neg (by omega)]];exact h.done i (by omega)
 ·have h3:=hinj i h2 (by omega);show(if swp s c p i=s p then c else B (swp s c p i))=n+swp s c p i;rw[if_neg h3];unfold swp;rw[if_neg (by omega)];split
  ·exact h.todo c (by omega) hc
  ·exact h.todo i (by omega) h2
 ·by_cases e1:i=c
  ·subst e1;rw[show elim (swpR R i p) i i j=swpR R i p i j from if_pos (Or.inl rfl),hRc j hj,if_pos rfl,show swp s i p i=s p from if_pos rfl];rw[show pivT T (s p) i (s p) (cl n j)=T (s p) (cl n j) / T (s p) i from if_pos rfl];grind
  ·rw[hrow i (by omega) e1 j hj,if_pos (by omega),if_neg e1]
 ·rw[hrow i h2 (by omega) j hj,if_neg (by omega)];grind
 ·split
  ·exact hTne
  ·exact h.pivne i (by omega)
 ·split
  ·exact⟨D,hD0,hDb,hDw (s p) (h.lt p hp) c (by omega)⟩
  ·exact h.pivsm i (by omega)
theorem gj_stuck{n c:Nat}{R0 R T:Nat->Nat->Rat}{B s:Nat->Nat}{piv:Nat->Rat}(h:GJ n c R0 R T B s piv)(hc:c < n)(hz:∀p,c<=p->p < n->R p c=0):
 ∃d:Nat->Rat,d c=1/\∀r,r < n->sm n (fun j=>R0 r j*d j)=0:=by
 have hnb:∀i,i < n->(∃k,k < n/\s k=i):=by
  intro i hi;by_cases hex:∃k,k < n/\s k=i
  ·exact hex
  ·exfalso;have hno:∀k,k < n->s k≠i:=fun k hk e=>hex ⟨k,hk,e⟩;obtain⟨n',rfl⟩:∃n',n=n'+1:=⟨n - 1,by omega⟩
   obtain⟨p,q,h1,h2,h3⟩:=VG n' (fun k=>qh i (s k)) (fun k hk=>by
    have h1:=h.lt k (by omega);have h2:=hno k (by omega);show qh i (s k) < n';unfold qh;split <;> omega)
   have h4:=hno p (by omega);have h5:=hno q (by omega)
   have h6:s p=s q:=by
    have h3':qh i (s p)=qh i (s q):=h3;unfold qh at h3';split at h3' <;> split at h3' <;> omega
   have:=h.inj p (by omega) q (by omega) h6;omega
 have hcz:∀p,c<=p->p < n->T (s p) c=0:=by
  intro p h1 h2;have:=h.rowt p h1 h2 c (by omega);rw[hz p h1 h2,show cl n c=c from if_neg (by omega)]at this;exact this.symm
 have hBc:∀i,i < n->B i≠c:=by
  intro i hi e;obtain⟨k,hk,rfl⟩:=hnb i hi;by_cases e2:k < c
  ·rw[h.done k e2]at e;omega
  ·rw[h.todo k (by omega) hk]at e;omega
 refine⟨ray n T B c,?_,fun r hr=>?_⟩
 ·unfold ray;rw[if_pos rfl,val_not hBc];grind
 ·have h1:=h.inv.hom_ray (show c < n+n by omega) r hr;rw[sm_app]at h1
  have e1:sm n (fun i=>ray n T B c (n+i)*solveA n R0 (n+i) r)=0:=by
   refine sm_zero (fun i hi=>?_)
   have:ray n T B c (n+i)=0:=by
    unfold ray;rw[if_neg (by omega)]
    have:val n (fun i=>- T i c) B (n+i)=0:=by
     refine sm_zero (fun k hk=>?_);split
     ·rename_i e;obtain⟨q,hq,rfl⟩:=hnb k hk;by_cases e2:q < c
      ·rw[h.done q e2]at e;omega
      ·show - T (s q) c=0;rw[hcz q (by omega) hq];grind
     ·rfl
    rw[this];grind
   rw[this];grind
  rw[e1]at h1
  have e2:sm n (fun j=>R0 r j*ray n T B c j)=sm n (fun j=>ray n T B c j*solveA n R0 j r):=sm_congr (fun j hj=>by
   unfold solveA;rw[if_pos hj];grind)
  rw[e2];grind
theorem gj_end{n:Nat}{R0 R T:Nat->Nat->Rat}{B s:Nat->Nat}{piv:Nat->Rat}(h:GJ n n R0 R T B s piv):
 (∀i,i < n->R i i≠0/\R i n / R i i=T (s i) (n+n))/\
 ∀x:Nat->Rat,(∀r,r < n->sm n (fun j=>R0 r j*x j)=R0 r n)->∀i,i < n->x i=T (s i) (n+n):=by
 have hd:∀i,i < n->∀j,j < n->T (s i) j=if i=j then 1 else 0:=by
  intro i hi j hj;have:=h.inv.unit (s i) (h.lt i hi) (s j) (h.lt j hj);rw[h.done j hj]at this;rw[this];by_cases e:i=j
  ·rw[if_pos e,if_pos (by rw[e])]
  ·rw[if_neg e,if_neg (fun e2=>e (h.inj i hi j hj e2))]
 refine⟨fun i hi=>?_,fun x hx i hi=>?_⟩
 ·have h1:=h.rowd i hi i (by omega);have h2:=h.rowd i hi n (nR _);rw[show cl n i=i from if_neg (by omega),hd i hi i hi,if_pos rfl]at h1;rw[show cl n n=n+n from if_pos rfl]at h2;have h3:=h.pivne i hi;rw[h1,h2];constructor <;> grind
 ·have hs:Sol n (n+n) (solveA n R0) (fun j=>if j < n then x j else 0):=by
   intro r hr;rw[sm_app]
   have e1:sm n (fun j=>(if j < n then x j else 0)*solveA n R0 j r)=sm n (fun j=>R0 r j*x j):=sm_congr (fun j hj=>by
    unfold solveA;rw[if_pos hj,if_pos hj];grind)
   have e2:sm n (fun i=>(if n+i < n then x (n+i) else 0)*solveA n R0 (n+i) r)=0:=sm_zero (fun i _=>by rw[if_neg (by omega)];grind);rw[e1,e2,hx r hr];unfold solveA;rw[if_neg (by omega),if_neg (by omega)];grind
  have h1:=h.inv.sol_rows hs (s i) (h.lt i hi);rw[<-h1,sm_app]
  have e1:sm n (fun j=>T (s i) j*(if j < n then x j else 0))=x i:=by
   rw[sm_single (k:=i) hi]
   ·rw[hd i hi i hi,if_pos rfl,if_pos hi];grind
   ·intro j hj hne;rw[hd i hi j hj,if_neg (fun e=>hne e.symm)];grind
  have e2:sm n (fun k=>T (s i) (n+k)*(if n+k < n then x (n+k) else 0))=0:=sm_zero (fun k _=>by rw[if_neg (by omega)];grind);rw[e1,e2];grind
end Go.Proofs.YtjbpgdpciinlcaaGreat.Cov
namespace Go.Proofs.YtjbpgdpciinlcaaGreat.Cov
theorem VR{v:Rat}{u:Nat}{x y:Nat->Rat}(h:Lex (key v u x) (key v u y)):v*sm u x<=v*sm u y:=by
 rcases h with h|⟨h,-⟩
 ·grind
 ·grind
theorem QY{m n:Nat}{A:Nat->Nat->Rat}:∀(l:List (Nat->Rat)) {bar:Nat->Bool} {s:Sx},Good m n A bar s->(∀c∈l,∃L:Rat,∀x,F m n A bar x->L<=dot n c x)->∃bar' s',Aims m n l bar s bar' s'
 |[],bar,s,_,_=>⟨bar,s,⟨rfl,rfl⟩⟩
 |c::l,bar,s,h,hb=>by
  obtain⟨b1,s1,h1⟩:=Kg c h;obtain⟨L,hL⟩:=hb c (List.mem_cons_self ..);obtain⟨g1,g2,g3⟩:=Good.aim h h1 L hL
  obtain⟨b2,s2,h2⟩:=QY l g1 (fun c' hc'=>by
   obtain⟨L',hL'⟩:=hb c' (mC _ hc');exact⟨L',fun x hx=>hL' x (g2 x hx).1⟩)
  exact⟨b2,s2,b1,s1,h1,h2⟩
theorem Kk{n:Nat}{c x:Nat->Rat}(hc:∀j,j < n->0<=c j)(hx:∀j,j < n->0<=x j):0<=dot n c x:=
 za (fun j hj=>Rat.mul_nonneg (hc j hj) (hx j hj))
theorem kR(a b j:Nat):0<=cf a b 1 j:=by
 unfold cf;split
 ·decide
 ·exact Rat.le_refl
theorem least_cover{m u:Nat}{M:Nat->Nat->Rat}(hM:∀r,r < m->∀e,e < u->0<=M r e)(hin:∀r,r < m->∃e,e < u/\M r e=1):
 ∃bar s,Good m (u+m+m) (coverA m u M) bar s/\Cover m u M (xb m (u+m+m) s)/\∀y,Cover m u M y->Lex (key 1 u (xb m (u+m+m) s)) (key 1 u y):=by
 obtain⟨bar,s,h⟩:=QY (m:=m) (n:=u+m+m) (A:=coverA m u M) (cf (u+m) (u+m+m) 1::cf 0 u 1::units u) cover_good (fun c hc=>by
  refine⟨0,fun x hx=>Kk (fun j _=>?_) (fun j hj=>hx.2.1 j hj)⟩;rcases List.mem_cons.1 hc with rfl|hc
  ·exact kR _ _ _
  rcases List.mem_cons.1 hc with rfl|hc
  ·exact kR _ _ _
  obtain⟨k,-,rfl⟩:=List.mem_map.1 hc;exact kR _ _ _)
 exact⟨bar,s,cover_least hM hin h⟩
theorem kept_sum{m u n:Nat}{M K:Nat->Nat->Rat}{rep up:Nat->Nat}{nz:Nat->Bool}
 (hK:∀r,r < m->∀p,p < n->K r p=M r (rep p)) (hrep:∀p,p < n->rep p < u)
 (hz:∀e,e < u->nz e=false->∀r,r < m->M r e=0)
 (hup:∀e,e < u->nz e=true->up e < n/\∀r,r < m->M r e<=M r (rep (up e)))
 {x y:Nat->Rat} (hx:Cover m u M x) (hxb:∀z,Cover m u M z->Lex (key 1 u x) (key 1 u z))
 (hy:Cover m n K y) (hyb:∀z,Cover m n K z->Lex (key 1 n y) (key 1 n z)):sm u x=sm n y:=by
 have one:∀p,p < n->∀f:Nat->Rat,sm u (fun e=>f e*(if rep p=e then y p else 0))=f (rep p)*y p:=by
  intro p hp f;rw[sm_single (k:=rep p) (hrep p hp)]
  ·simp
  ·intro i _ hi;have:rep p≠i:=fun h=>hi h.symm;simp[this]
 have two:∀f:Nat->Rat,sm u (fun e=>f e*sm n (fun p=>if rep p=e then y p else 0))=sm n (fun p=>f (rep p)*y p):=by
  intro f
  have e1:sm u (fun e=>f e*sm n (fun p=>if rep p=e then y p else 0))=sm u (fun e=>sm n (fun p=>f e*(if rep p=e then y p else 0))):=
   sm_congr (fun e _=>(sm_mul n (f e) _).symm)
  rw[e1,vm];exact sm_congr (fun p hp=>one p hp f)
 have c1:Cover m u M (fun e=>sm n (fun p=>if rep p=e then y p else 0)):=by
  refine⟨fun e _=>za (fun p hp=>?_),fun r hr=>?_⟩
  ·split
   ·exact hy.1 p hp
   ·exact Rat.le_refl
  ·show 1<=sm u (fun e=>M r e*sm n (fun p=>if rep p=e then y p else 0));rw[two (M r)];have:=hy.2 r hr;rw[sm_congr (fun p hp=>by rw[hK r hr p hp])]at this;exact this
 have s1:sm u (fun e=>sm n (fun p=>if rep p=e then y p else 0))=sm n y:=by
  have:=two (fun _=>1);rw[sm_congr (g:=fun e=>sm n (fun p=>if rep p=e then y p else 0)) (fun e _=>by grind),sm_congr (n:=n) (g:=y) (fun e _=>by grind)]at this;exact this
 have l1:sm u x<=sm n y:=by
  have:=VR (hxb _ c1);rw[s1]at this;grind
 have three:∀f:Nat->Rat,sm n (fun p=>f p*sm u (fun e=>if nz e=true/\up e=p then x e else 0))=sm u (fun e=>if nz e=true then f (up e)*x e else 0):=by
  intro f
  have e1:sm n (fun p=>f p*sm u (fun e=>if nz e=true/\up e=p then x e else 0))=sm n (fun p=>sm u (fun e=>f p*(if nz e=true/\up e=p then x e else 0))):=
   sm_congr (fun p _=>(sm_mul u (f p) _).symm)
  rw[e1,vm];refine sm_congr (fun e he=>?_);by_cases hn:nz e=true
  ·rw[if_pos hn,sm_single (k:=up e) (hup e he hn).1]
   ·simp[hn]
   ·intro p _ hp;have:¬(nz e=true/\up e=p):=fun h=>hp h.2.symm;rw[if_neg this];grind
  ·rw[if_neg hn];refine sm_zero (fun p _=>?_);rw[if_neg (fun h=>hn h.1)];grind
 have c2:Cover m n K (fun p=>sm u (fun e=>if nz e=true/\up e=p then x e else 0)):=by
  refine⟨fun p _=>za (fun e he=>?_),fun r hr=>?_⟩
  ·split
   ·exact hx.1 e he
   ·exact Rat.le_refl
  ·show 1<=sm n (fun p=>K r p*sm u (fun e=>if nz e=true/\up e=p then x e else 0));rw[three (K r)];have h1:=hx.2 r hr
   have h2:sm u (fun e=>M r e*x e)<=sm u (fun e=>if nz e=true then K r (up e)*x e else 0):=by
    refine Kf (fun e he=>?_);by_cases hn:nz e=true
    ·rw[if_pos hn];obtain⟨hu1,hu2⟩:=hup e he hn;rw[hK r hr _ hu1];have h3:=hu2 r hr;have h4:=hx.1 e he;exact Rat.mul_le_mul_of_nonneg_right h3 h4
    ·rw[if_neg hn,hz e he (by simpa using hn) r hr];grind
   grind
 have l2:sm n y<=sm u x:=by
  have:=VR (hyb _ c2);have h2:=three (fun _=>1)
  have h3:sm u (fun e=>if nz e=true then 1*x e else 0)<=sm u x:=by
   refine Kf (fun e he=>?_);by_cases hn:nz e=true
   ·rw[if_pos hn];grind
   ·rw[if_neg hn];exact hx.1 e he
  rw[sm_congr (n:=n) (g:=fun p=>sm u (fun e=>if nz e=true/\up e=p then x e else 0)) (fun e _=>by grind)]at h2;grind
 grind
end Go.Proofs.YtjbpgdpciinlcaaGreat.Cov
