import Derived.Below
import Derived.RowKit
import Derived.Test.YtkaipapdlnojiaaGreatProg
import Derived.WalkKit
set_option maxHeartbeats 40000000
set_option maxRecDepth 1000000
namespace Go.Proofs.YtkaipapdlnojiaaGreat
open Go.RowKit
variable {C c i j k m n r s:Nat}{B:Nat->Nat}{A T:Nat->Nat->Rat}{f g x:Nat->Rat}{p q:Rat}
abbrev Bl(a b:World):Prop:=Below a.heap.size a b
abbrev Cl:=Calls Tryz.prog
abbrev gD:=@List.getD_eq_getElem?_getD
abbrev bC:=@List.getElem?_eq_getElem
abbrev bL:=@World.block_lt_of_cell?
abbrev bD:=@World.cell?_setCell_other
abbrev fS:=@World.frozen?_setCell
abbrev bE:=@Below.heap_setCell
abbrev cA:=@World.cell?_alloc_at
abbrev bF:=@World.cell?_of_block
abbrev oM:=@World.ownsRow_made
abbrev bG:=@World.ownsRow_nil
abbrev gM:=@List.getElem_mem
abbrev bI:=@World.cell?_setCell_same
abbrev bJ:=@heap_setCell_same
abbrev bK:=@_root_.Nat.le_refl
abbrev nZ:=@_root_.Nat.zero_le
abbrev bM:=@Below.refl
abbrev gO:=@List.getElem_of_mem
abbrev tA:=@List.take_add_one
abbrev tL:=@List.take_length
abbrev lA:=@List.length_append
abbrev lS:=@List.length_singleton
abbrev lM:=@List.length_map
abbrev bN:=@List.getElem?_map
abbrev mA:=@List.map_append
abbrev bQ:=@_root_.Nat.le_trans
abbrev bV:=@_root_.Nat.lt_of_lt_of_le
abbrev gN:=@List.getElem?_eq_none
abbrev aL:=@List.getElem?_append_left
abbrev bX:=@List.getElem?_append_right
abbrev dE:=@decide_eq_true_eq
abbrev bA:=@Bool.and_eq_true
abbrev bY:=@List.all_eq_true
abbrev mC:=@List.mem_cons_of_mem
abbrev bZ:=@List.length_take
abbrev tD:=@List.take_append_drop
abbrev aI:=@Go.Addr.mk.injEq
abbrev oI:=@Option.some.injEq
abbrev vI:=@Value.slice.injEq
theorem Oo{P:Prop}(h:P:=by omega):P:=h
theorem Dd{P:Prop}(h:P:=by decide):P:=h
theorem Gg{P:Prop}(h:P:=by go_num):P:=h
theorem Ss{P:Prop}(h:P:=by simp):P:=h
theorem Rr{P:Prop}(h:P:=by grind):P:=h
end Go.Proofs.YtkaipapdlnojiaaGreat
namespace Go.Proofs.YtkaipapdlnojiaaGreat.RatM
variable {C c i j k m n r s:Nat}{B:Nat->Nat}{A T:Nat->Nat->Rat}{f g x:Nat->Rat}{p q:Rat}
theorem gcd_step(a b:Int):Int.gcd b (a.tmod b)=Int.gcd a b:=by
 unfold Int.gcd;rw[Int.natAbs_tmod,Nat.gcd_comm a.natAbs,Nat.gcd_rec b.natAbs a.natAbs,Nat.gcd_comm]
theorem natAbs_tmod_lt(a b:Int)(h:b≠0):(a.tmod b).natAbs < b.natAbs:=by
 rw[Int.natAbs_tmod];exact Nat.mod_lt _ Oo
theorem gcd_zero(a:Int):(Int.gcd a 0:Int)=max a (-a):=by
 simp;omega
theorem gcd_pos(a b:Int)(h:b≠0):0 < (Int.gcd a b:Int):=by
 have:=Int.gcd_pos_of_ne_zero_right a h;omega
theorem gcd_le(a b:Int)(h:b≠0):(Int.gcd a b:Int)<=b.natAbs:=by
 have:=Nat.gcd_le_right (n:=b.natAbs) a.natAbs Oo;unfold Int.gcd;omega
def frN(num den:Int):Int:=if den < 0 then (-num).tdiv (Int.gcd num den) else num.tdiv (Int.gcd num den)
def frD(num den:Int):Int:=if den < 0 then (-den).tdiv (Int.gcd num den) else den.tdiv (Int.gcd num den)
theorem tdiv_abs_le(a g:Int):(a.tdiv g).natAbs<=a.natAbs:=by
 rw[Int.natAbs_tdiv];exact Nat.div_le_self _ _
theorem jH(a b:Int)(h:b≠0):Int.gcd (a.tdiv (Int.gcd a b)) (b.tdiv (Int.gcd a b))=1:=by
 unfold Int.gcd;rw[Int.natAbs_tdiv,Int.natAbs_tdiv,Int.natAbs_natCast];exact Nat.gcd_div_gcd_div_gcd_of_pos_right Oo
theorem fr_coprime(a b:Int)(h:b≠0):Int.gcd (frN a b) (frD a b)=1:=by
 unfold frN frD;split
 ·have:=jH (-a) (-b) Oo;simpa using this
 ·exact jH a b h
theorem Q6(a g:Int)(I:0 < g)(h:g<=a):0 < a.tdiv g:=by
 rw[Int.tdiv_eq_ediv_of_nonneg Oo];have:=Int.ediv_le_ediv I h;rw[Int.ediv_self Oo]at this;omega
theorem frD_pos(a b:Int)(h:b≠0):0 < frD a b:=by
 have I:=gcd_pos a b h;have K:=gcd_le a b h;unfold frD;split
 ·exact Q6 _ _ I Oo
 ·exact Q6 _ _ I Oo
theorem gcd_abs(a b:Int):Int.gcd (a.natAbs:Int) (b.natAbs:Int)=Int.gcd a b:=by
 unfold Int.gcd;simp
theorem gcd_neg_neg(a b:Int):Int.gcd (-a) (-b)=Int.gcd a b:=Ss
def sgn(n:Int):Int:=if n < 0 then -1 else if 0 < n then 1 else 0
end Go.Proofs.YtkaipapdlnojiaaGreat.RatM
namespace Go.Proofs.YtkaipapdlnojiaaGreat.Cov
variable {C c i j k m n r s:Nat}{B:Nat->Nat}{A T:Nat->Nat->Rat}{f g x:Nat->Rat}{p q:Rat}
def sm:Nat->(Nat->Rat)->Rat
 |0,_=>0
 |n+1,f=>sm n f+f n
theorem sm_congr(h:∀i,i < n->f i=g i):sm n f=sm n g:=by
 induction n with
 |zero=>rfl
 |succ n ih=>
  show sm n f+f n=sm n g+g n;rw[ih (λi hi=>h i Oo),h n Oo]
theorem sm_zero(h:∀i,i < n->f i=0):sm n f=0:=by
 induction n with
 |zero=>rfl
 |succ n ih=>
  show sm n f+f n=0;rw[ih (λi hi=>h i Oo),h n Oo];grind
theorem sm_add(n:Nat)(f g:Nat->Rat):sm n (λi=>f i+g i)=sm n f+sm n g:=by
 induction n with
 |zero=>show(0:Rat)=0+0;grind
 |succ n ih=>
  show sm n (λi=>f i+g i)+(f n+g n)=(sm n f+f n)+(sm n g+g n);rw[ih];grind
theorem sm_mul(n:Nat)(c:Rat)(f:Nat->Rat):sm n (λi=>c*f i)=c*sm n f:=by
 induction n with
 |zero=>show(0:Rat)=c*0;grind
 |succ n ih=>
  show sm n (λi=>c*f i)+c*f n=c*(sm n f+f n);rw[ih];grind
theorem sm_single(K:k < n)(h:∀i,i < n->i≠k->f i=0):sm n f=f k:=by
 induction n with
 |zero=>omega
 |succ n ih=>
  show sm n f+f n=f k;by_cases e:k=n
  ·subst e;rw[sm_zero (λi hi=>h i Oo Oo)];grind
  ·rw[ih Oo (λi hi I=>h i Oo I),h n Oo Oo];grind
theorem qFR{l:Nat}(I:k < l)(hl:l < n)(h:∀i,i < n->i≠k->i≠l->f i=0):sm n f=f k+f l:=by
 induction n with
 |zero=>omega
 |succ n ih=>
  show sm n f+f n=f k+f l;by_cases e:l=n
  ·subst e;rw[sm_single (k:=k) I (λi hi K=>h i Oo K Oo)]
  ·rw[ih Oo (λi hi a b=>h i Oo a b),h n Oo Oo Oo];grind
theorem uJ(n m:Nat)(f:Nat->Nat->Rat):sm n (λi=>sm m (λj=>f i j))=sm m (λj=>sm n (λi=>f i j)):=by
 induction n with
 |zero=>exact(sm_zero (λ_ _=>rfl)).symm
 |succ n ih=>
  show sm n (λi=>sm m (λj=>f i j))+sm m (λj=>f n j)=sm m (λj=>sm n (λi=>f i j)+f n j);rw[ih,sm_add]
theorem sm_nonneg(h:∀i,i < n->0<=f i):0<=sm n f:=by
 induction n with
 |zero=>show(0:Rat)<=0;grind
 |succ n ih=>
  show 0<=sm n f+f n;have I:=ih (λi hi=>h i Oo);have K:=h n Oo;grind
theorem qAX(h:∀i,i < n->f i<=g i):sm n f<=sm n g:=by
 induction n with
 |zero=>show(0:Rat)<=0;grind
 |succ n ih=>
  show sm n f+f n<=sm n g+g n;have I:=ih (λi hi=>h i Oo);have K:=h n Oo;grind
theorem jf(h:∀i,i < n->0<=f i)(I:sm n f<=0):∀i,i < n->f i=0:=by
 induction n with
 |zero=>intro i hi;omega
 |succ n ih=>
  intro i hi;have M:=sm_nonneg (λi hi=>h i Oo:∀i,i < n->0<=f i);have O:=h n Oo;have K:sm n f+f n<=0:=I;by_cases e:i=n
  ·subst e;grind
  ·exact ih (λi hi=>h i Oo) Rr i Oo
def skip(j a:Nat):Nat:=if a < j then a else a+1
def qt(j k:Nat):Nat:=if k < j then k else k - 1
def sg(j:Nat):Rat:=if j % 2=0 then 1 else -1
def minor(j:Nat)(M:Nat->Nat->Rat):Nat->Nat->Rat:=λa b=>M (skip j a) (b+1)
def det:Nat->(Nat->Nat->Rat)->Rat
 |0,_=>1
 |m+1,M=>sm (m+1) (λj=>sg j*M j 0*det m (minor j M))
def upd(M:Nat->Nat->Rat)(k:Nat)(v:Nat->Rat):Nat->Nat->Rat:=λj i=>if j=k then v i else M j i
theorem jC:∀{M N:Nat->Nat->Rat},(∀j,j < m->∀i,i < m->M j i=N j i)->det m M=det m N:=by
 induction m with
 |zero=>intro M N _;rfl
 |succ m ih=>
  intro M N h;show sm (m+1) _=sm (m+1) _;refine sm_congr (λj I=>?_);rw[h j I 0 Oo,ih (M:=minor j M) (N:=minor j N) (λa K b hb=>?_)];show M (skip j a) (b+1)=N (skip j a) (b+1);exact h _ (by unfold skip;split <;> omega) _ Oo
theorem yt(M:Nat->Nat->Rat)(k:Nat)(v:Nat->Rat):minor k (upd M k v)=minor k M:=by
 funext a b;show(if skip k a=k then v (b+1) else M (skip k a) (b+1))=M (skip k a) (b+1);rw[if_neg];unfold skip;split <;> omega
theorem uS(M:Nat->Nat->Rat)(j k:Nat)(v:Nat->Rat)(h:j≠k):minor j (upd M k v)=upd (minor j M) (qt j k) (λi=>v (i+1)):=by
 funext a b;show(if skip j a=k then v (b+1) else M (skip j a) (b+1))=(if a=qt j k then v (b+1) else M (skip j a) (b+1));by_cases e:skip j a=k
 ·rw[if_pos e,if_pos];unfold qt skip at *;split at e <;> split <;> omega
 ·rw[if_neg e,if_neg];intro I;apply e;unfold qt skip at *;split at I <;> split <;> omega
theorem jg:∀(M:Nat->Nat->Rat) (k:Nat) (a b:Rat) (u v:Nat->Rat),k < m->
 det m (upd M k (λi=>a*u i+b*v i))=a*det m (upd M k u)+b*det m (upd M k v):=by
 induction m with
 |zero=>intro M k a b u v h;omega
 |succ m ih=>
  intro M k a b u v K;show sm (m+1) _=a*sm (m+1) _+b*sm (m+1) _;rw[<-sm_mul,<-sm_mul,<-sm_add];refine sm_congr (λj O=>?_);by_cases e:j=k
  ·subst e;rw[yt,yt,yt];have I:∀w:Nat->Rat,upd M j w j 0=w 0:=λw=>if_pos rfl;rw[I,I,I];grind
  ·rw[uS _ _ _ _ e,uS _ _ _ _ e,uS _ _ _ _ e];have I:∀w:Nat->Rat,upd M k w j 0=M j 0:=λw=>if_neg e;rw[I,I,I];rw[ih (minor j M) (qt j k) a b (λi=>u (i+1)) (λi=>v (i+1)) (by unfold qt;split <;> omega)];grind
theorem Jm(j k:Nat)(h:j≠k):skip j (qt j k)=k:=by
 by_cases e:k < j
 ·rw[show qt j k=k from if_pos e];exact if_pos e
 ·rw[show qt j k=k - 1 from if_neg e,show skip j (k - 1)=k - 1+1 from if_neg Oo];omega
theorem UA(j k:Nat)(I:j≠k)(K:j≠k+1):skip j (qt j k+1)=k+1:=by
 by_cases e:k < j
 ·rw[show qt j k=k from if_pos e];exact if_pos Oo
 ·rw[show qt j k=k - 1 from if_neg e,show skip j (k - 1+1)=k - 1+1+1 from if_neg Oo];omega
theorem qEC(k:Nat):sg (k+1)=- sg k:=by
 unfold sg;by_cases h:k % 2=0
 ·rw[if_pos h,if_neg Oo]
 ·rw[if_neg h,if_pos Oo];grind
theorem Kt:∀(M:Nat->Nat->Rat) (k:Nat),k+1 < m->(∀i,M k i=M (k+1) i)->det m M=0:=by
 induction m with
 |zero=>intro M k h;omega
 |succ m ih=>
  intro M k O h;show sm (m+1) _=0;rw[qFR (k:=k) (l:=k+1) Oo Oo]
  ·have e:minor k M=minor (k+1) M:=by
    funext a b;show M (skip k a) (b+1)=M (skip (k+1) a) (b+1);by_cases I:a < k
    ·rw[show skip k a=a by unfold skip;rw[if_pos I],show skip (k+1) a=a by unfold skip;rw[if_pos Oo]]
    ·by_cases K:a=k
     ·subst K;rw[show skip a a=a+1 by unfold skip;rw[if_neg Oo],show skip (a+1) a=a by unfold skip;rw[if_pos Oo],h]
     ·rw[show skip k a=a+1 by unfold skip;rw[if_neg I],show skip (k+1) a=a+1 by unfold skip;rw[if_neg Oo]]
   rw[e,qEC,h 0];grind
  ·intro j U I K;rw[ih (minor j M) (qt j k) (by unfold qt;split <;> omega) (λi=>?_)]
   ·grind
   ·show M (skip j (qt j k)) (i+1)=M (skip j (qt j k+1)) (i+1);rw[Jm j k I,UA j k I K,h]
theorem xR(M:Nat->Nat->Rat)(k l:Nat)(u v:Nat->Rat)(h:k≠l):upd (upd M k u) l v=upd (upd M l v) k u:=by
 funext j i;unfold upd;by_cases e:j=k
 ·subst e;rw[if_neg h,if_pos rfl,if_pos rfl]
 ·by_cases I:j=l
  ·subst I;rw[if_pos rfl,if_neg e,if_pos rfl]
  ·rw[if_neg I,if_neg e,if_neg e,if_neg I]
theorem ZA(M:Nat->Nat->Rat)(k:Nat):upd M k (M k)=M:=by
 funext j i;unfold upd;by_cases e:j=k
 ·subst e;rw[if_pos rfl]
 ·rw[if_neg e]
theorem qCo(M:Nat->Nat->Rat)(k:Nat)(u v:Nat->Rat)(h:k+1 < m):
 det m (upd (upd M k u) (k+1) v)=- det m (upd (upd M k v) (k+1) u):=by
 have key:∀a b:Nat->Rat,(∀i,a i=b i)->det m (upd (upd M k a) (k+1) b)=0:=by
  intro a b K;refine Kt _ k h (λi=>?_);unfold upd;rw[if_neg Oo,if_pos rfl,if_pos rfl,K]
 have s:∀i,u i+v i=1*u i+1*v i:=λi=>Rr;have I:=key (λi=>1*u i+1*v i) (λi=>1*u i+1*v i) (λ_=>rfl);rw[jg _ (k+1) 1 1 u v h]at I;rw[xR _ _ _ _ _ Oo,xR _ _ _ (λi=>1*u i+1*v i) v Oo]at I;rw[jg _ k 1 1 u v Oo,jg _ k 1 1 u v Oo]at I;rw[xR _ (k+1) k _ _ Oo,xR _ (k+1) k _ _ Oo,xR _ (k+1) k _ _ Oo,xR _ (k+1) k _ _ Oo]at I;rw[key u u (λ_=>rfl),key v v (λ_=>rfl)]at I;grind
theorem Ku:∀(g:Nat) (M:Nat->Nat->Rat) (p q:Nat),q - p=g->p < q->q < m->(∀i,M p i=M q i)->det m M=0:=by
 intro g;induction g with
 |zero=>intro M p q K O;omega
 |succ g ih=>
  intro M p q K O I h;by_cases e:q=p+1
  ·subst e;exact Kt M p I h
  ·obtain⟨r,rfl⟩:∃r,q=r+1:=⟨q - 1,Oo⟩;have U:M=upd (upd M r (M r)) (r+1) (M (r+1)):=by rw[ZA,ZA]
   rw[U,qCo _ _ _ _ I,ih _ p r Oo Oo Oo]
   ·grind
   ·intro i;unfold upd;rw[if_neg Oo,if_neg Oo,if_neg Oo,if_pos rfl,h]
theorem Jn(M:Nat->Nat->Rat)(p q:Nat)(hp:p < m)(hq:q < m)(I:p≠q)(h:∀i,M p i=M q i):det m M=0:=by
 by_cases e:p < q
 ·exact Ku _ M p q rfl e hq h
 ·exact Ku _ M q p rfl Oo hp (λi=>(h i).symm)
theorem km(M:Nat->Nat->Rat)(k:Nat)(I:k < m):det m (upd M k (λ_=>0))=0:=by
 have h:=jg M k 0 0 (λ_=>0) (λ_=>0) I;have e:(λ(i:Nat)=>(0:Rat)*(λ_=>(0:Rat)) i+0*(λ_=>(0:Rat)) i)=λ_=>(0:Rat):=by funext i;grind
 rw[e]at h;grind
theorem qED(M:Nat->Nat->Rat)(i:Nat)(hi:i < m)(z:Nat->Rat)(V:Nat->Nat->Rat)(n:Nat):
 det m (upd M i (λr=>sm n (λk=>z k*V k r)))=sm n (λk=>z k*det m (upd M i (V k))):=by
 induction n with
 |zero=>exact km M i hi
 |succ n ih=>
  show det m (upd M i (λr=>sm n (λk=>z k*V k r)+z n*V n r))=sm n (λk=>z k*det m (upd M i (V k)))+z n*det m (upd M i (V n));rw[<-ih];have h:=jg M i 1 (z n) (λr=>sm n (λk=>z k*V k r)) (V n) hi;have e:(λr=>1*sm n (λk=>z k*V k r)+z n*V n r)=(λr=>sm n (λk=>z k*V k r)+z n*V n r):=by funext r;grind
  rw[e]at h;rw[h];grind
theorem UB(M:Nat->Nat->Rat)(i:Nat)(hi:i < m)(z v:Nat->Rat)(h:∀r,r < m->v r=sm m (λk=>z k*M k r)):
 det m (upd M i v)=z i*det m M:=by
 have K:det m (upd M i v)=det m (upd M i (λr=>sm m (λk=>z k*M k r))):=by
  refine jC (λj _ r hr=>?_);unfold upd;split
  ·exact h r hr
  ·rfl
 rw[K,qED M i hi];rw[sm_single (k:=i) hi]
 ·rw[ZA]
 ·intro k O I;rw[Jn (upd M i (M k)) i k hi O Oo]
  ·grind
  ·intro r;unfold upd;rw[if_pos rfl,if_neg I]
theorem YU(M:Nat->Nat->Rat)(K:det m M≠0)(z:Nat->Rat)(h:∀r,r < m->sm m (λk=>z k*M k r)=0):∀i,i < m->z i=0:=by
 intro i hi;have I:=UB M i hi z (λ_=>0) (λr hr=>(h r hr).symm);rw[km M i hi]at I;grind
def fac:Nat->Nat
 |0=>1
 |n+1=>(n+1)*fac n
def Whole(B:Nat)(q:Rat):Prop:=∃z:Int,q=(z:Rat)/\z.natAbs<=B
theorem Whole.mono{B:Nat}(h:Whole B q)(I:B<=C):Whole C q:=by
 obtain⟨z,K,M⟩:=h;exact⟨z,K,Oo⟩
theorem Whole.add{B:Nat}(h:Whole B p)(k:Whole C q):Whole (B+C) (p+q):=by
 obtain⟨x,rfl,I⟩:=h;obtain⟨y,rfl,K⟩:=k;exact⟨x+y,Ss,Oo⟩
theorem Whole.mul{B:Nat}(h:Whole B p)(k:Whole C q):Whole (B*C) (p*q):=by
 obtain⟨x,rfl,I⟩:=h;obtain⟨y,rfl,K⟩:=k;exact⟨x*y,Ss,by rw[Int.natAbs_mul];exact Nat.mul_le_mul I K⟩
theorem Whole.neg{B:Nat}(h:Whole B p):Whole B (-p):=by
 obtain⟨x,rfl,I⟩:=h;exact⟨-x,Ss,Oo⟩
theorem whole_sm{B:Nat}(n:Nat)(h:∀i,i < n->Whole B (f i)):Whole (n*B) (sm n f):=by
 induction n with
 |zero=>exact⟨0,rfl,Ss⟩
 |succ n ih=>
  have:=(ih (λi hi=>h i Oo)).add (h n Oo);rw[Nat.succ_mul];exact this
theorem qCp(j:Nat):Whole 1 (sg j):=by
 unfold sg;split
 ·exact⟨1,rfl,Dd⟩
 ·exact⟨-1,rfl,Dd⟩
theorem YV:∀(M:Nat->Nat->Rat),(∀j,j < m->∀i,i < m->Whole 1 (M j i))->Whole (fac m) (det m M):=by
 induction m with
 |zero=>intro M _;exact⟨1,rfl,Dd⟩
 |succ m ih=>
  intro M h;show Whole ((m+1)*fac m) (sm (m+1) _);refine whole_sm (m+1) (λj I=>?_);have K:=ih (minor j M) (λa U b hb=>h _ (by unfold skip;split <;> omega) _ Oo);have O:=((qCp j).mul (h j I 0 Oo)).mul K;simpa using O
end Go.Proofs.YtkaipapdlnojiaaGreat.Cov
namespace Go.Proofs.YtkaipapdlnojiaaGreat.Cov
variable {C c i j k m n r s:Nat}{B:Nat->Nat}{A T:Nat->Nat->Rat}{f g x:Nat->Rat}{p q:Rat}
structure Inv(m n:Nat)(A:Nat->Nat->Rat)(T:Nat->Nat->Rat)(B:Nat->Nat):Prop where
 lt:∀i,i < m->B i < n
 unit:∀i,i < m->∀k,k < m->T i (B k)=if i=k then 1 else 0
 col:∀j,j<=n->∀r,r < m->A j r=sm m (λi=>T i j*A (B i) r)
 dne:det m (λi=>A (B i))≠0
theorem Inv.inj(h:Inv m n A T B)(hi:i < m)(O:k < m)(e:B i=B k):i=k:=by
 have I:=h.unit i hi k O;have K:=h.unit i hi i hi;rw[if_pos rfl]at K;rw[<-e,K]at I;by_cases M:i=k
 ·exact M
 ·rw[if_neg M]at I;grind
def pivT(T:Nat->Nat->Rat)(r c:Nat):Nat->Nat->Rat:=λi j=>if i=r then T r j / T r c else T i j - T i c*(T r j / T r c)
def pivB(B:Nat->Nat)(r c:Nat):Nat->Nat:=λi=>if i=r then c else B i
theorem yP(hr:r < m)(f:Nat->Rat):sm m f=f r+sm m (λi=>if i=r then 0 else f i):=by
 have K:sm m f=sm m (λi=>(if i=r then f r else 0)+(if i=r then 0 else f i)):=by
  refine sm_congr (λi _=>?_);by_cases e:i=r
  ·subst e;rw[if_pos rfl,if_pos rfl];grind
  ·rw[if_neg e,if_neg e];grind
 rw[K,sm_add,sm_single (k:=r) hr]
 ·rw[if_pos rfl]
 ·intro i _ I;rw[if_neg I]
theorem Inv.pivot(h:Inv m n A T B)(hr:r < m)(hc:c < n)(hp:T r c≠0):
 Inv m n A (pivT T r c) (pivB B r c):=by
 refine⟨?_,?_,?_,?_⟩
 ·intro i hi;unfold pivB;split
  ·exact hc
  ·exact h.lt i hi
 ·intro i hi k O;unfold pivT pivB;by_cases U:k=r
  ·subst U;rw[if_pos rfl];by_cases I:i=k
   ·subst I;rw[if_pos rfl,if_pos rfl];grind
   ·rw[if_neg I,if_neg I];grind
  ·rw[if_neg U];have K:=h.unit r hr k O;rw[if_neg Oo]at K;rw[K];by_cases I:i=r
   ·subst I;rw[if_pos rfl,if_neg Oo];grind
   ·rw[if_neg I,h.unit i hi k O];grind
 ·intro j hj s hs;have K:=h.col j hj s hs;have V:=h.col c Oo s hs;rw[yP hr]at K V;rw[yP hr]
  have M:sm m (λi=>if i=r then 0 else pivT T r c i j*A (pivB B r c i) s)=sm m (λi=>if i=r then 0 else T i j*A (B i) s) - (T r j / T r c)*sm m (λi=>if i=r then 0 else T i c*A (B i) s):=by
   have e2:(λi=>if i=r then 0 else pivT T r c i j*A (pivB B r c i) s)=λi=>(if i=r then 0 else T i j*A (B i) s)+(-(T r j / T r c))*(if i=r then 0 else T i c*A (B i) s):=by
    funext i;unfold pivT pivB;by_cases I:i=r
    ·rw[if_pos I,if_pos I,if_pos I];grind
    ·rw[if_neg I,if_neg I,if_neg I,if_neg I,if_neg I];grind
   rw[e2,sm_add,sm_mul];grind
  rw[M];have e3:pivT T r c r j=T r j / T r c:=if_pos rfl;have e4:pivB B r c r=c:=if_pos rfl;rw[e3,e4,K,V];grind
 ·have M:det m (λi=>A (pivB B r c i))=det m (upd (λi=>A (B i)) r (A c)):=by
   refine jC (λj _ i _=>?_);unfold upd pivB;split <;> rfl
  rw[M,UB (λi=>A (B i)) r hr (λi=>T i c) (A c) (λs hs=>h.col c Oo s hs)];have:=h.dne;grind
theorem Inv.entry(h:Inv m n A T B)(hi:i < m)(I:j<=n):
 det m (upd (λi=>A (B i)) i (A j))=T i j*det m (λi=>A (B i)):=
 UB (λi=>A (B i)) i hi (λi=>T i j) (A j) (λs hs=>h.col j I s hs)
theorem Inv.small(h:Inv m n A T B)(M:∀j,j<=n->∀r,r < m->Whole 1 (A j r)):
 ∃D:Int,D≠0/\D.natAbs<=fac m/\∀i,i < m->∀j,j<=n->Whole (fac m) (T i j*D):=by
 have hB:∀j,j < m->∀i,i < m->Whole 1 ((λi=>A (B i)) j i):=λj I i hi=>M _ (Nat.le_of_lt (h.lt j I)) i hi;obtain⟨D,O,K⟩:=YV (λi=>A (B i)) hB;refine⟨D,?_,K,?_⟩
 ·intro e;apply h.dne;rw[O,e];rfl
 ·intro i hi j I;rw[<-O,<-h.entry hi I];refine YV _ (λa U b hb=>?_);unfold upd;split
  ·exact M j I b hb
  ·exact hB a U b hb
def Sol(m n:Nat)(A:Nat->Nat->Rat)(x:Nat->Rat):Prop:=∀r,r < m->sm n (λj=>x j*A j r)=A n r
def Hom(m n:Nat)(A:Nat->Nat->Rat)(x:Nat->Rat):Prop:=∀r,r < m->sm n (λj=>x j*A j r)=0
theorem Inv.comb(h:Inv m n A T B)(x:Nat->Rat)(r:Nat)(hr:r < m):
 sm n (λj=>x j*A j r)=sm m (λi=>sm n (λj=>T i j*x j)*A (B i) r):=by
 have I:sm n (λj=>x j*A j r)=sm n (λj=>sm m (λi=>T i j*x j*A (B i) r)):=by
  refine sm_congr (λj M=>?_);rw[h.col j Oo r hr,<-sm_mul];exact sm_congr (λi _=>Rr)
 rw[I,uJ];refine sm_congr (λi _=>?_);have K:(λj=>T i j*x j*A (B i) r)=λj=>A (B i) r*(T i j*x j):=by funext j;grind
 rw[K,sm_mul];grind
theorem Inv.hom_rows(h:Inv m n A T B)(I:Hom m n A x):
 ∀i,i < m->sm n (λj=>T i j*x j)=0:=
 YU (λi=>A (B i)) h.dne (λi=>sm n (λj=>T i j*x j)) (λr hr=>by rw[<-h.comb x r hr];exact I r hr)
theorem Inv.sol_rows(h:Inv m n A T B)(K:Sol m n A x):
 ∀i,i < m->sm n (λj=>T i j*x j)=T i n:=by
 have key:=YU (λi=>A (B i)) h.dne (λi=>sm n (λj=>T i j*x j) - T i n) (λr hr=>by
  have I:=h.comb x r hr;rw[K r hr,h.col n (bK _) r hr]at I;have M:(λk=>(sm n (λj=>T k j*x j) - T k n)*A (B k) r)=λk=>sm n (λj=>T k j*x j)*A (B k) r+(-1)*(T k n*A (B k) r):=by funext k;grind
  show sm m (λk=>(sm n (λj=>T k j*x j) - T k n)*A (B k) r)=0;rw[M,sm_add,sm_mul,<-I];grind)
 intro i hi;have:=key i hi;grind
def red(m:Nat)(cost:Nat->Rat)(T:Nat->Nat->Rat)(B:Nat->Nat):Nat->Rat:=λj=>cost j - sm m (λi=>cost (B i)*T i j)
theorem Kv(cost:Nat->Rat)(T:Nat->Nat->Rat)(B:Nat->Nat)(x:Nat->Rat)(t:Nat->Rat)(I:∀i,i < m->sm n (λj=>T i j*x j)=t i):
 sm n (λj=>red m cost T B j*x j)=sm n (λj=>cost j*x j) - sm m (λi=>cost (B i)*t i):=by
 have K:(λj=>red m cost T B j*x j)=λj=>cost j*x j+(-1)*sm m (λi=>cost (B i)*(T i j*x j)):=by
  funext j;unfold red
  have:sm m (λi=>cost (B i)*(T i j*x j))=x j*sm m (λi=>cost (B i)*T i j):=by
   rw[<-sm_mul];exact sm_congr (λi _=>Rr)
  rw[this];grind
 rw[K,sm_add,sm_mul,uJ]
 have M:sm m (λi=>sm n (λj=>cost (B i)*(T i j*x j)))=sm m (λi=>cost (B i)*t i):=by
  refine sm_congr (λi hi=>?_);rw[sm_mul,I i hi]
 rw[M];grind
theorem Inv.cost_hom(h:Inv m n A T B)(cost:Nat->Rat)(I:Hom m n A x):
 sm n (λj=>cost j*x j)=sm n (λj=>red m cost T B j*x j):=by
 have e:sm m (λi=>cost (B i)*(λ_=>(0:Rat)) i)=0:=sm_zero (λi _=>Rr);rw[Kv cost T B x (λ_=>0) (h.hom_rows I),e];grind
theorem Inv.cost_sol(h:Inv m n A T B)(cost:Nat->Rat)(I:Sol m n A x):
 sm n (λj=>cost j*x j)=sm n (λj=>red m cost T B j*x j)+sm m (λi=>cost (B i)*T i n):=by
 rw[Kv cost T B x (λi=>T i n) (h.sol_rows I)];grind
theorem Inv.red_basic(h:Inv m n A T B)(cost:Nat->Rat)(I:k < m):red m cost T B (B k)=0:=by
 unfold red;rw[sm_single (k:=k) I]
 ·rw[h.unit k I k I,if_pos rfl];grind
 ·intro i hi K;rw[h.unit i hi k I,if_neg K];grind
theorem red_pivot(h:Inv m n A T B)(cost:Nat->Rat)(hr:r < m)(hp:T r c≠0)(j:Nat):
 red m cost (pivT T r c) (pivB B r c) j=red m cost T B j - red m cost T B c*(T r j / T r c):=by
 unfold red;rw[yP hr,yP hr (λi=>cost (B i)*T i j),yP hr (λi=>cost (B i)*T i c)]
 have K:sm m (λi=>if i=r then 0 else cost (pivB B r c i)*pivT T r c i j)=sm m (λi=>if i=r then 0 else cost (B i)*T i j) - (T r j / T r c)*sm m (λi=>if i=r then 0 else cost (B i)*T i c):=by
  have M:(λi=>if i=r then 0 else cost (pivB B r c i)*pivT T r c i j)=λi=>(if i=r then 0 else cost (B i)*T i j)+(-(T r j / T r c))*(if i=r then 0 else cost (B i)*T i c):=by
   funext i;unfold pivT pivB;by_cases I:i=r
   ·rw[if_pos I,if_pos I,if_pos I];grind
   ·rw[if_neg I,if_neg I,if_neg I,if_neg I,if_neg I];grind
  rw[M,sm_add,sm_mul];grind
 rw[K];have O:pivT T r c r j=T r j / T r c:=if_pos rfl;have U:pivB B r c r=c:=if_pos rfl;rw[O,U];have:=h.dne;grind
def val(m:Nat)(t:Nat->Rat)(B:Nat->Nat)(j:Nat):Rat:=sm m (λi=>if B i=j then t i else 0)
theorem Inv.val_basic(h:Inv m n A T B)(t:Nat->Rat)(K:k < m):val m t B (B k)=t k:=by
 unfold val;rw[sm_single (k:=k) K]
 ·rw[if_pos rfl]
 ·intro i hi I;rw[if_neg (λe=>I (h.inj hi K e))]
theorem val_not{t:Nat->Rat}(I:∀i,i < m->B i≠j):val m t B j=0:=
 sm_zero (λi hi=>if_neg (I i hi))
theorem Zt(t:Nat->Rat)(B:Nat->Nat)(hB:∀i,i < m->B i < n)(f:Nat->Rat):
 sm n (λj=>val m t B j*f j)=sm m (λi=>t i*f (B i)):=by
 have K:sm n (λj=>val m t B j*f j)=sm n (λj=>sm m (λi=>if B i=j then t i*f (B i) else 0)):=by
  refine sm_congr (λj _=>?_);unfold val
  have:f j*sm m (λi=>if B i=j then t i else 0)=sm m (λi=>if B i=j then t i*f (B i) else 0):=by
   rw[<-sm_mul];refine sm_congr (λi _=>?_);by_cases e:B i=j
   ·rw[if_pos e,if_pos e,e];grind
   ·rw[if_neg e,if_neg e];grind
  rw[<-this];grind
 rw[K,uJ];refine sm_congr (λi hi=>?_);rw[sm_single (k:=B i) (hB i hi)]
 ·rw[if_pos rfl]
 ·intro j _ I;rw[if_neg (λe=>I e.symm)]
theorem Inv.sol_basic(h:Inv m n A T B):Sol m n A (val m (λi=>T i n) B):=by
 intro r hr;rw[Zt (λi=>T i n) B h.lt (λj=>A j r),h.col n (bK _) r hr]
def ray(m:Nat)(T:Nat->Nat->Rat)(B:Nat->Nat)(s:Nat)(j:Nat):Rat:=(if j=s then 1 else 0)+val m (λi=>- T i s) B j
theorem Inv.hom_ray(h:Inv m n A T B)(hs:s < n):Hom m n A (ray m T B s):=by
 intro r hr
 have K:(λj=>ray m T B s j*A j r)=λj=>(if j=s then A s r else 0)+val m (λi=>- T i s) B j*A j r:=by
  funext j;unfold ray;by_cases e:j=s
  ·subst e;rw[if_pos rfl,if_pos rfl];grind
  ·rw[if_neg e,if_neg e];grind
 rw[K,sm_add,Zt _ B h.lt (λj=>A j r),sm_single (k:=s) hs]
 ·rw[if_pos rfl,h.col s Oo r hr,<-sm_add];exact sm_zero (λi _=>Rr)
 ·intro j _ I;rw[if_neg I]
theorem Inv.ray_cost(h:Inv m n A T B)(cost:Nat->Rat)(hs:s < n):
 sm n (λj=>cost j*ray m T B s j)=red m cost T B s:=by
 rw[h.cost_hom cost (h.hom_ray hs)]
 have K:(λj=>red m cost T B j*ray m T B s j)=λj=>(if j=s then red m cost T B s else 0)+val m (λi=>- T i s) B j*red m cost T B j:=by
  funext j;unfold ray;by_cases e:j=s
  ·subst e;rw[if_pos rfl,if_pos rfl];grind
  ·rw[if_neg e,if_neg e];grind
 rw[K,sm_add,Zt _ B h.lt,sm_single (k:=s) hs]
 ·rw[if_pos rfl,sm_zero (λi hi=>by rw[h.red_basic cost hi];grind)];grind
 ·intro j _ I;rw[if_neg I]
end Go.Proofs.YtkaipapdlnojiaaGreat.Cov
