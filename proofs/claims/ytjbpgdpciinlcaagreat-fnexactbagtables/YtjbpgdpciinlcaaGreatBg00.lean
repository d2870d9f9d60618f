import Derived.Below
import Derived.RowKit
import Derived.Test.YtjbpgdpciinlcaaGreatProg
import Derived.WalkKit
set_option maxHeartbeats 40000000
set_option maxRecDepth 1000000
namespace Go.Proofs.YtjbpgdpciinlcaaGreat
open Go.RowKit
abbrev Bl(a b:World):Prop:=Below a.heap.size a b
abbrev Cl:=Calls Tryz.prog
abbrev gD:=@List.getD_eq_getElem?_getD
abbrev gE:=@List.getElem?_eq_getElem
abbrev bL:=@World.block_lt_of_cell?
abbrev bC:=@World.cell?_setCell_other
abbrev fS:=@World.frozen?_setCell
abbrev bD:=@Below.heap_setCell
abbrev cA:=@World.cell?_alloc_at
abbrev bE:=@World.cell?_of_block
abbrev oM:=@World.ownsRow_made
abbrev oN:=@World.ownsRow_nil
abbrev gM:=@List.getElem_mem
abbrev bF:=@World.cell?_setCell_same
abbrev bG:=@heap_setCell_same
abbrev nR:=@_root_.Nat.le_refl
abbrev nZ:=@_root_.Nat.zero_le
abbrev bI:=@Below.refl
abbrev gO:=@List.getElem_of_mem
abbrev tA:=@List.take_add_one
abbrev tL:=@List.take_length
abbrev lA:=@List.length_append
abbrev lS:=@List.length_singleton
abbrev lM:=@List.length_map
abbrev bJ:=@List.getElem?_map
abbrev mA:=@List.map_append
abbrev bK:=@_root_.Nat.le_trans
abbrev bM:=@_root_.Nat.lt_of_lt_of_le
abbrev gN:=@List.getElem?_eq_none
abbrev aL:=@List.getElem?_append_left
abbrev bN:=@List.getElem?_append_right
abbrev dE:=@decide_eq_true_eq
abbrev bA:=@Bool.and_eq_true
abbrev aT:=@List.all_eq_true
abbrev mC:=@List.mem_cons_of_mem
abbrev bQ:=@List.length_take
abbrev tD:=@List.take_append_drop
abbrev aI:=@Go.Addr.mk.injEq
abbrev oI:=@Option.some.injEq
abbrev vI:=@Value.slice.injEq
end Go.Proofs.YtjbpgdpciinlcaaGreat
namespace Go.Proofs.YtjbpgdpciinlcaaGreat.RatM
theorem gcd_step(a b:Int):Int.gcd b (a.tmod b)=Int.gcd a b:=by
 unfold Int.gcd;rw[Int.natAbs_tmod,Nat.gcd_comm a.natAbs,Nat.gcd_rec b.natAbs a.natAbs,Nat.gcd_comm]
theorem natAbs_tmod_lt(a b:Int)(h:b≠0):(a.tmod b).natAbs < b.natAbs:=by
 rw[Int.natAbs_tmod];exact Nat.mod_lt _ (by omega)
theorem gcd_zero(a:Int):(Int.gcd a 0:Int)=max a (-a):=by
 simp;omega
theorem gcd_pos(a b:Int)(h:b≠0):0 < (Int.gcd a b:Int):=by
 have:=Int.gcd_pos_of_ne_zero_right a h;omega
theorem gcd_le(a b:Int)(h:b≠0):(Int.gcd a b:Int)<=b.natAbs:=by
 have:=Nat.gcd_le_right (n:=b.natAbs) a.natAbs (by omega);unfold Int.gcd;omega
def frN(num den:Int):Int:=if den < 0 then (-num).tdiv (Int.gcd num den) else num.tdiv (Int.gcd num den)
def frD(num den:Int):Int:=if den < 0 then (-den).tdiv (Int.gcd num den) else den.tdiv (Int.gcd num den)
theorem tdiv_abs_le(a g:Int):(a.tdiv g).natAbs<=a.natAbs:=by
 rw[Int.natAbs_tdiv];exact Nat.div_le_self _ _
theorem uk(a b:Int)(h:b≠0):Int.gcd (a.tdiv (Int.gcd a b)) (b.tdiv (Int.gcd a b))=1:=by
 unfold Int.gcd;rw[Int.natAbs_tdiv,Int.natAbs_tdiv,Int.natAbs_natCast];exact Nat.gcd_div_gcd_div_gcd_of_pos_right (by omega)
theorem fr_coprime(a b:Int)(h:b≠0):Int.gcd (frN a b) (frD a b)=1:=by
 unfold frN frD;split
 ·have:=uk (-a) (-b) (by omega);simpa using this
 ·exact uk a b h
theorem Qj(a g:Int)(hg:0 < g)(h:g<=a):0 < a.tdiv g:=by
 rw[Int.tdiv_eq_ediv_of_nonneg (by omega)];have:=Int.ediv_le_ediv hg h;rw[Int.ediv_self (by omega)]at this;omega
theorem frD_pos(a b:Int)(h:b≠0):0 < frD a b:=by
 have h1:=gcd_pos a b h;have h2:=gcd_le a b h;unfold frD;split
 ·exact Qj _ _ h1 (by omega)
 ·exact Qj _ _ h1 (by omega)
theorem gcd_abs(a b:Int):Int.gcd (a.natAbs:Int) (b.natAbs:Int)=Int.gcd a b:=by
 unfold Int.gcd;simp
theorem gcd_neg_neg(a b:Int):Int.gcd (-a) (-b)=Int.gcd a b:=by simp
theorem qDW(a b:Int):(if b < 0 then -a else a)=(Int.gcd a b:Int)*frN a b:=by
 have h1:(Int.gcd a b:Int) ∣ a:=Int.gcd_dvd_left ..;unfold frN;split
 ·rw[Int.mul_tdiv_cancel'];exact(Int.dvd_neg).2 h1
 ·rw[Int.mul_tdiv_cancel' h1]
theorem frN_sign(a b:Int)(h:0 < b):(frN a b < 0↔a < 0)/\(0 < frN a b↔0 < a):=by
 have h1:=gcd_pos a b (by omega);have h2:=qDW a b;rw[if_neg (by omega)]at h2;generalize (Int.gcd a b:Int)=g at *;generalize frN a b=n at *;subst h2;constructor
 ·constructor
  ·intro h;exact Int.mul_neg_of_pos_of_neg h1 h
  ·intro h;rcases Int.lt_or_le n 0 with hn|hn
   ·exact hn
   ·have:=Int.mul_nonneg (Int.le_of_lt h1) hn;omega
 ·constructor
  ·intro h;exact Int.mul_pos h1 h
  ·intro h;rcases Int.lt_or_le 0 n with hn|hn
   ·exact hn
   ·have:=Int.mul_nonneg (Int.le_of_lt h1) (show 0<=-n by omega);rw[Int.mul_neg]at this;omega
def sgn(n:Int):Int:=if n < 0 then -1 else if 0 < n then 1 else 0
theorem sgn_congr(x n:Int)(h:(x < 0↔n < 0)/\(0 < x↔0 < n)):sgn x=sgn n:=by
 obtain⟨h1,h2⟩:=h;unfold sgn;repeat' split
 all_goals omega
theorem sgn_gt(n:Int)(h:0 < n):sgn n=1:=by unfold sgn;rw[if_neg (by omega),if_pos h]
end Go.Proofs.YtjbpgdpciinlcaaGreat.RatM
namespace Go.Proofs.YtjbpgdpciinlcaaGreat.Meet
def Asc(l:List Int):Prop:=∀i j,i < j->j < l.length->l.getD i 0 < l.getD j 0
end Go.Proofs.YtjbpgdpciinlcaaGreat.Meet
namespace Go.Proofs.YtjbpgdpciinlcaaGreat
def yz(nxt:List Int->List Int)(p:List Int):Nat->List (List Int)
 |0=>[p]
 |j+1=>(yz nxt p j).flatMap fun q=>(nxt q).map fun v=>q++[v]
def qp(nxt:List Int->List Int):Nat->List Int->List (List Int)
 |0,p=>[p]
 |m+1,p=>p::(nxt p).flatMap fun v=>qp nxt m (p++[v])
theorem Qu{α β γ:Type}(l:List α)(f:α->List β)(g:β->List γ):(l.flatMap f).flatMap g=l.flatMap fun a=>(f a).flatMap g:=by
 induction l with
 |nil=>rfl
 |cons a l ih=>rw[List.flatMap_cons,List.flatMap_append,ih,List.flatMap_cons]
theorem YE(nxt:List Int->List Int)(p:List Int):∀j,yz nxt p (j+1)=(nxt p).flatMap fun v=>yz nxt (p++[v]) j
 |0=>by
  show([p].flatMap fun q=>(nxt q).map fun v=>q++[v])=(nxt p).flatMap fun v=>[p++[v]];rw[List.flatMap_singleton];induction nxt p with
  |nil=>rfl
  |cons a l ih=>rw[List.map_cons,List.flatMap_cons,ih];rfl
 |j+1=>by
  show(yz nxt p (j+1)).flatMap _=_;rw[YE nxt p j,Qu];rfl
theorem Vw(nxt:List Int->List Int)(p:List Int):∀j,∀q∈yz nxt p j,q.length=p.length+j
 |0,q,h=>by simp[yz]at h;rw[h];rfl
 |j+1,q,h=>by
  simp only[yz,List.mem_flatMap,List.mem_map]at h;obtain⟨r,hr,v,-,rfl⟩:=h;rw[lA,Vw nxt p j r hr];rfl
theorem uc{α β:Type}(l:List α)(f:α->List β)(q:β->Bool):(l.flatMap f).filter q=l.flatMap fun a=>(f a).filter q:=by
 induction l with
 |nil=>rfl
 |cons a l ih=>rw[List.flatMap_cons,List.filter_append,ih,List.flatMap_cons]
theorem kY(nxt:List Int->List Int):∀(m:Nat) (p q:List Int),q∈qp nxt m p->p.length<=q.length/\q.length<=p.length+m
 |0,p,q,h=>by simp[qp]at h;rw[h];omega
 |m+1,p,q,h=>by
  simp only[qp,List.mem_cons,List.mem_flatMap]at h;rcases h with rfl|⟨v,-,hq⟩
  ·omega
  ·have:=kY nxt m (p++[v]) q hq;rw[lA,lS]at this;omega
theorem Vx(nxt:List Int->List Int):∀(m:Nat) (p:List Int) (j:Nat),j<=m->(qp nxt m p).filter (fun q=>decide (q.length=p.length+j))=yz nxt p j
 |0,p,j,hj=>by
  obtain rfl:j=0:=by omega
  simp[qp,yz]
 |m+1,p,0,_=>by
  show((p::(nxt p).flatMap fun v=>qp nxt m (p++[v])).filter _)=[p];rw[List.filter_cons,if_pos (by simp),uc]
  have h:∀l:List Int,(l.flatMap fun v=>(qp nxt m (p++[v])).filter fun q=>decide (q.length=p.length+0))=[]:=fun l=>by
   rw[List.flatMap_eq_nil_iff];intro v _;rw[List.filter_eq_nil_iff];intro q hq;have:=(kY nxt m (p++[v]) q hq).1;rw[lA,lS]at this;simp only[decide_eq_true_eq];omega
  rw[h]
 |m+1,p,j+1,hj=>by
  show((p::(nxt p).flatMap fun v=>qp nxt m (p++[v])).filter _)=_;rw[List.filter_cons,if_neg (by simp),uc,YE];congr 1;funext v;have:=Vx nxt m (p++[v]) j (by omega);rw[lA,lS]at this;rw[<-this];congr 1;funext q;congr 1;rw[eq_iff_iff];omega
def qb(ps:List (List Int))(n:Nat):Nat:=(ps.filter fun q=>decide (q.length=n)).length
theorem kZ(ps:List (List Int))(p:List Int)(n:Nat):qb (ps++[p]) n=qb ps n+if p.length=n then 1 else 0:=by
 unfold qb;rw[List.filter_append,lA];by_cases h:p.length=n <;> simp[h]
theorem qDC(ps qs:List (List Int))(n:Nat):qb ps n<=qb (ps++qs) n:=by
 unfold qb;rw[List.filter_append,lA];omega
theorem Zl(ps:List (List Int)):∀k,(∀q∈ps,q.length<=k)->(ps.filter fun q=>decide (0 < q.length)).length=((List.range k).map fun j=>qb ps (j+1)).sum:=by
 induction ps with
 |nil=>
  intro k _
  have h:∀k:Nat,((List.range k).map fun j=>qb [] (j+1)).sum=0:=fun k=>by
   induction k with
   |zero=>rfl
   |succ k ih=>rw[List.range_succ,mA,List.sum_append,ih];rfl
  rw[h];rfl
 |cons p ps ih=>
  intro k h;have h1:=ih k fun q hq=>h q (mC _ hq);have hp:=h p List.mem_cons_self
  have hc:∀n,qb (p::ps) n=qb ps n+if p.length=n then 1 else 0:=fun n=>by
   unfold qb;rw[List.filter_cons];by_cases e:p.length=n <;> simp[e]
  have hs:∀k,p.length<=k->((List.range k).map fun j=>qb (p::ps) (j+1)).sum=((List.range k).map fun j=>qb ps (j+1)).sum+if 0 < p.length then 1 else 0:=fun k=>by
   induction k with
   |zero=>
    intro h0;have h8:p.length=0:=by omega
    rw[h8];rfl
   |succ k ihk=>
    intro hk;rw[List.range_succ,mA,List.sum_append,mA,List.sum_append];simp only[List.map_cons,List.map_nil,List.sum_cons,List.sum_nil,Nat.add_zero];rw[hc];by_cases e:p.length=k+1
    ·have h9:((List.range k).map fun j=>qb (p::ps) (j+1))=(List.range k).map fun j=>qb ps (j+1):=List.map_congr_left fun j hj=>by
      rw[hc,if_neg (by have:=List.mem_range.1 hj;omega)];rfl
     rw[h9,if_pos e,if_pos (by omega)];omega
    ·rw[ihk (by omega),if_neg e];omega
  rw[hs k hp,<-h1,List.filter_cons];by_cases e:0 < p.length
  ·rw[if_pos (by simpa using e),if_pos e,List.length_cons]
  ·rw[if_neg (by simpa using e),if_neg e];rfl
end Go.Proofs.YtjbpgdpciinlcaaGreat
namespace Go.Proofs.YtjbpgdpciinlcaaGreat.Cov
def sm:Nat->(Nat->Rat)->Rat
 |0,_=>0
 |n+1,f=>sm n f+f n
theorem sm_congr{n:Nat}{f g:Nat->Rat}(h:∀i,i < n->f i=g i):sm n f=sm n g:=by
 induction n with
 |zero=>rfl
 |succ n ih=>
  show sm n f+f n=sm n g+g n;rw[ih (fun i hi=>h i (by omega)),h n (by omega)]
theorem sm_zero{n:Nat}{f:Nat->Rat}(h:∀i,i < n->f i=0):sm n f=0:=by
 induction n with
 |zero=>rfl
 |succ n ih=>
  show sm n f+f n=0;rw[ih (fun i hi=>h i (by omega)),h n (by omega)];grind
theorem sm_add(n:Nat)(f g:Nat->Rat):sm n (fun i=>f i+g i)=sm n f+sm n g:=by
 induction n with
 |zero=>show(0:Rat)=0+0;grind
 |succ n ih=>
  show sm n (fun i=>f i+g i)+(f n+g n)=(sm n f+f n)+(sm n g+g n);rw[ih];grind
theorem sm_mul(n:Nat)(c:Rat)(f:Nat->Rat):sm n (fun i=>c*f i)=c*sm n f:=by
 induction n with
 |zero=>show(0:Rat)=c*0;grind
 |succ n ih=>
  show sm n (fun i=>c*f i)+c*f n=c*(sm n f+f n);rw[ih];grind
theorem sm_single{n k:Nat}{f:Nat->Rat}(hk:k < n)(h:∀i,i < n->i≠k->f i=0):sm n f=f k:=by
 induction n with
 |zero=>omega
 |succ n ih=>
  show sm n f+f n=f k;by_cases e:k=n
  ·subst e;rw[sm_zero (fun i hi=>h i (by omega) (by omega))];grind
  ·rw[ih (by omega) (fun i hi hne=>h i (by omega) hne),h n (by omega) (by omega)];grind
theorem qDx{n k l:Nat}{f:Nat->Rat}(hkl:k < l)(hl:l < n)(h:∀i,i < n->i≠k->i≠l->f i=0):sm n f=f k+f l:=by
 induction n with
 |zero=>omega
 |succ n ih=>
  show sm n f+f n=f k+f l;by_cases e:l=n
  ·subst e;rw[sm_single (k:=k) hkl (fun i hi hne=>h i (by omega) hne (by omega))]
  ·rw[ih (by omega) (fun i hi a b=>h i (by omega) a b),h n (by omega) (by omega) (by omega)];grind
theorem vm(n m:Nat)(f:Nat->Nat->Rat):sm n (fun i=>sm m (fun j=>f i j))=sm m (fun j=>sm n (fun i=>f i j)):=by
 induction n with
 |zero=>exact(sm_zero (fun _ _=>rfl)).symm
 |succ n ih=>
  show sm n (fun i=>sm m (fun j=>f i j))+sm m (fun j=>f n j)=sm m (fun j=>sm n (fun i=>f i j)+f n j);rw[ih,sm_add]
theorem za{n:Nat}{f:Nat->Rat}(h:∀i,i < n->0<=f i):0<=sm n f:=by
 induction n with
 |zero=>show(0:Rat)<=0;grind
 |succ n ih=>
  show 0<=sm n f+f n;have h1:=ih (fun i hi=>h i (by omega));have h2:=h n (by omega);grind
theorem Kf{n:Nat}{f g:Nat->Rat}(h:∀i,i < n->f i<=g i):sm n f<=sm n g:=by
 induction n with
 |zero=>show(0:Rat)<=0;grind
 |succ n ih=>
  show sm n f+f n<=sm n g+g n;have h1:=ih (fun i hi=>h i (by omega));have h2:=h n (by omega);grind
theorem u7{n:Nat}{f:Nat->Rat}(h:∀i,i < n->0<=f i)(hz:sm n f<=0):∀i,i < n->f i=0:=by
 induction n with
 |zero=>intro i hi;omega
 |succ n ih=>
  intro i hi;have h1:=za (fun i hi=>h i (by omega):∀i,i < n->0<=f i);have h2:=h n (by omega);have hz':sm n f+f n<=0:=hz;by_cases e:i=n
  ·subst e;grind
  ·exact ih (fun i hi=>h i (by omega)) (by grind) i (by omega)
def skip(j a:Nat):Nat:=if a < j then a else a+1
def qh(j k:Nat):Nat:=if k < j then k else k - 1
def sg(j:Nat):Rat:=if j % 2=0 then 1 else -1
def minor(j:Nat)(M:Nat->Nat->Rat):Nat->Nat->Rat:=fun a b=>M (skip j a) (b+1)
def det:Nat->(Nat->Nat->Rat)->Rat
 |0,_=>1
 |m+1,M=>sm (m+1) (fun j=>sg j*M j 0*det m (minor j M))
def upd(M:Nat->Nat->Rat)(k:Nat)(v:Nat->Rat):Nat->Nat->Rat:=fun j i=>if j=k then v i else M j i
theorem uY{m:Nat}:∀{M N:Nat->Nat->Rat},(∀j,j < m->∀i,i < m->M j i=N j i)->det m M=det m N:=by
 induction m with
 |zero=>intro M N _;rfl
 |succ m ih=>
  intro M N h;show sm (m+1) _=sm (m+1) _;refine sm_congr (fun j hj=>?_);rw[h j hj 0 (by omega),ih (M:=minor j M) (N:=minor j N) (fun a ha b hb=>?_)];show M (skip j a) (b+1)=N (skip j a) (b+1);exact h _ (by unfold skip;split <;> omega) _ (by omega)
theorem yn(M:Nat->Nat->Rat)(k:Nat)(v:Nat->Rat):minor k (upd M k v)=minor k M:=by
 funext a b;show(if skip k a=k then v (b+1) else M (skip k a) (b+1))=M (skip k a) (b+1);rw[if_neg];unfold skip;split <;> omega
theorem uE(M:Nat->Nat->Rat)(j k:Nat)(v:Nat->Rat)(h:j≠k):minor j (upd M k v)=upd (minor j M) (qh j k) (fun i=>v (i+1)):=by
 funext a b;show(if skip j a=k then v (b+1) else M (skip j a) (b+1))=(if a=qh j k then v (b+1) else M (skip j a) (b+1));by_cases e:skip j a=k
 ·rw[if_pos e,if_pos];unfold qh skip at *;split at e <;> split <;> omega
 ·rw[if_neg e,if_neg];intro e2;apply e;unfold qh skip at *;split at e2 <;> split <;> omega
theorem jA{m:Nat}:∀(M:Nat->Nat->Rat) (k:Nat) (a b:Rat) (u v:Nat->Rat),k < m->
 det m (upd M k (fun i=>a*u i+b*v i))=a*det m (upd M k u)+b*det m (upd M k v):=by
 induction m with
 |zero=>intro M k a b u v h;omega
 |succ m ih=>
  intro M k a b u v hk;show sm (m+1) _=a*sm (m+1) _+b*sm (m+1) _;rw[<-sm_mul,<-sm_mul,<-sm_add];refine sm_congr (fun j hj=>?_);by_cases e:j=k
  ·subst e;rw[yn,yn,yn];have e1:∀w:Nat->Rat,upd M j w j 0=w 0:=fun w=>if_pos rfl;rw[e1,e1,e1];grind
  ·rw[uE _ _ _ _ e,uE _ _ _ _ e,uE _ _ _ _ e];have e1:∀w:Nat->Rat,upd M k w j 0=M j 0:=fun w=>if_neg e;rw[e1,e1,e1];rw[ih (minor j M) (qh j k) a b (fun i=>u (i+1)) (fun i=>v (i+1)) (by unfold qh;split <;> omega)];grind
theorem U0(j k:Nat)(h:j≠k):skip j (qh j k)=k:=by
 by_cases e:k < j
 ·rw[show qh j k=k from if_pos e];exact if_pos e
 ·rw[show qh j k=k - 1 from if_neg e,show skip j (k - 1)=k - 1+1 from if_neg (by omega)];omega
theorem VK(j k:Nat)(h1:j≠k)(h2:j≠k+1):skip j (qh j k+1)=k+1:=by
 by_cases e:k < j
 ·rw[show qh j k=k from if_pos e];exact if_pos (by omega)
 ·rw[show qh j k=k - 1 from if_neg e,show skip j (k - 1+1)=k - 1+1+1 from if_neg (by omega)];omega
theorem qCu(k:Nat):sg (k+1)=- sg k:=by
 unfold sg;by_cases h:k % 2=0
 ·rw[if_pos h,if_neg (by omega)]
 ·rw[if_neg h,if_pos (by omega)];grind
theorem Jk{m:Nat}:∀(M:Nat->Nat->Rat) (k:Nat),k+1 < m->(∀i,M k i=M (k+1) i)->det m M=0:=by
 induction m with
 |zero=>intro M k h;omega
 |succ m ih=>
  intro M k hk h;show sm (m+1) _=0;rw[qDx (k:=k) (l:=k+1) (by omega) (by omega)]
  ·have e:minor k M=minor (k+1) M:=by
    funext a b;show M (skip k a) (b+1)=M (skip (k+1) a) (b+1);by_cases h1:a < k
    ·rw[show skip k a=a by unfold skip;rw[if_pos h1],show skip (k+1) a=a by unfold skip;rw[if_pos (by omega)]]
    ·by_cases h2:a=k
     ·subst h2;rw[show skip a a=a+1 by unfold skip;rw[if_neg (by omega)],show skip (a+1) a=a by unfold skip;rw[if_pos (by omega)],h]
     ·rw[show skip k a=a+1 by unfold skip;rw[if_neg h1],show skip (k+1) a=a+1 by unfold skip;rw[if_neg (by omega)]]
   rw[e,qCu,h 0];grind
  ·intro j hj h1 h2;rw[ih (minor j M) (qh j k) (by unfold qh;split <;> omega) (fun i=>?_)]
   ·grind
   ·show M (skip j (qh j k)) (i+1)=M (skip j (qh j k+1)) (i+1);rw[U0 j k h1,VK j k h1 h2,h]
theorem xM(M:Nat->Nat->Rat)(k l:Nat)(u v:Nat->Rat)(h:k≠l):upd (upd M k u) l v=upd (upd M l v) k u:=by
 funext j i;unfold upd;by_cases e:j=k
 ·subst e;rw[if_neg h,if_pos rfl,if_pos rfl]
 ·by_cases e2:j=l
  ·subst e2;rw[if_pos rfl,if_neg e,if_pos rfl]
  ·rw[if_neg e2,if_neg e,if_neg e,if_neg e2]
theorem Qo(M:Nat->Nat->Rat)(k:Nat):upd M k (M k)=M:=by
 funext j i;unfold upd;by_cases e:j=k
 ·subst e;rw[if_pos rfl]
 ·rw[if_neg e]
theorem qBi{m:Nat}(M:Nat->Nat->Rat)(k:Nat)(u v:Nat->Rat)(h:k+1 < m):
 det m (upd (upd M k u) (k+1) v)=- det m (upd (upd M k v) (k+1) u):=by
 have key:∀a b:Nat->Rat,(∀i,a i=b i)->det m (upd (upd M k a) (k+1) b)=0:=by
  intro a b hab;refine Jk _ k h (fun i=>?_);unfold upd;rw[if_neg (by omega),if_pos rfl,if_pos rfl,hab]
 have s:∀i,u i+v i=1*u i+1*v i:=fun i=>by grind
 have h1:=key (fun i=>1*u i+1*v i) (fun i=>1*u i+1*v i) (fun _=>rfl);rw[jA _ (k+1) 1 1 u v h]at h1;rw[xM _ _ _ _ _ (by omega),xM _ _ _ (fun i=>1*u i+1*v i) v (by omega)]at h1;rw[jA _ k 1 1 u v (by omega),jA _ k 1 1 u v (by omega)]at h1;rw[xM _ (k+1) k _ _ (by omega),xM _ (k+1) k _ _ (by omega),xM _ (k+1) k _ _ (by omega),xM _ (k+1) k _ _ (by omega)]at h1;rw[key u u (fun _=>rfl),key v v (fun _=>rfl)]at h1;grind
theorem Jl{m:Nat}:∀(g:Nat) (M:Nat->Nat->Rat) (p q:Nat),q - p=g->p < q->q < m->(∀i,M p i=M q i)->det m M=0:=by
 intro g;induction g with
 |zero=>intro M p q h1 h2;omega
 |succ g ih=>
  intro M p q h1 h2 h3 h;by_cases e:q=p+1
  ·subst e;exact Jk M p h3 h
  ·obtain⟨r,rfl⟩:∃r,q=r+1:=⟨q - 1,by omega⟩;have e1:M=upd (upd M r (M r)) (r+1) (M (r+1)):=by rw[Qo,Qo]
   rw[e1,qBi _ _ _ _ h3,ih _ p r (by omega) (by omega) (by omega)]
   ·grind
   ·intro i;unfold upd;rw[if_neg (by omega),if_neg (by omega),if_neg (by omega),if_pos rfl,h]
theorem U1{m:Nat}(M:Nat->Nat->Rat)(p q:Nat)(hp:p < m)(hq:q < m)(hne:p≠q)(h:∀i,M p i=M q i):det m M=0:=by
 by_cases e:p < q
 ·exact Jl _ M p q rfl e hq h
 ·exact Jl _ M q p rfl (by omega) hp (fun i=>(h i).symm)
theorem kM{m:Nat}(M:Nat->Nat->Rat)(k:Nat)(hk:k < m):det m (upd M k (fun _=>0))=0:=by
 have h:=jA M k 0 0 (fun _=>0) (fun _=>0) hk;have e:(fun (i:Nat)=>(0:Rat)*(fun _=>(0:Rat)) i+0*(fun _=>(0:Rat)) i)=fun _=>(0:Rat):=by funext i;grind
 rw[e]at h;grind
theorem qCv{m:Nat}(M:Nat->Nat->Rat)(i:Nat)(hi:i < m)(z:Nat->Rat)(V:Nat->Nat->Rat)(n:Nat):
 det m (upd M i (fun r=>sm n (fun k=>z k*V k r)))=sm n (fun k=>z k*det m (upd M i (V k))):=by
 induction n with
 |zero=>exact kM M i hi
 |succ n ih=>
  show det m (upd M i (fun r=>sm n (fun k=>z k*V k r)+z n*V n r))=sm n (fun k=>z k*det m (upd M i (V k)))+z n*det m (upd M i (V n));rw[<-ih];have h:=jA M i 1 (z n) (fun r=>sm n (fun k=>z k*V k r)) (V n) hi;have e:(fun r=>1*sm n (fun k=>z k*V k r)+z n*V n r)=(fun r=>sm n (fun k=>z k*V k r)+z n*V n r):=by funext r;grind
  rw[e]at h;rw[h];grind
theorem VL{m:Nat}(M:Nat->Nat->Rat)(i:Nat)(hi:i < m)(z v:Nat->Rat)(h:∀r,r < m->v r=sm m (fun k=>z k*M k r)):
 det m (upd M i v)=z i*det m M:=by
 have e1:det m (upd M i v)=det m (upd M i (fun r=>sm m (fun k=>z k*M k r))):=by
  refine uY (fun j _ r hr=>?_);unfold upd;split
  ·exact h r hr
  ·rfl
 rw[e1,qCv M i hi];rw[sm_single (k:=i) hi]
 ·rw[Qo]
 ·intro k hk hne;rw[U1 (upd M i (M k)) i k hi hk (by omega)]
  ·grind
  ·intro r;unfold upd;rw[if_pos rfl,if_neg hne]
theorem Xz{m:Nat}(M:Nat->Nat->Rat)(hM:det m M≠0)(z:Nat->Rat)(h:∀r,r < m->sm m (fun k=>z k*M k r)=0):∀i,i < m->z i=0:=by
 intro i hi;have h1:=VL M i hi z (fun _=>0) (fun r hr=>(h r hr).symm);rw[kM M i hi]at h1;grind
def fac:Nat->Nat
 |0=>1
 |n+1=>(n+1)*fac n
def Whole(B:Nat)(q:Rat):Prop:=∃z:Int,q=(z:Rat)/\z.natAbs<=B
theorem Whole.mono{B C:Nat}{q:Rat}(h:Whole B q)(hBC:B<=C):Whole C q:=by
 obtain⟨z,h1,h2⟩:=h;exact⟨z,h1,by omega⟩
theorem Whole.add{B C:Nat}{p q:Rat}(h:Whole B p)(k:Whole C q):Whole (B+C) (p+q):=by
 obtain⟨x,rfl,hx⟩:=h;obtain⟨y,rfl,hy⟩:=k;exact⟨x+y,by simp,by omega⟩
theorem Whole.mul{B C:Nat}{p q:Rat}(h:Whole B p)(k:Whole C q):Whole (B*C) (p*q):=by
 obtain⟨x,rfl,hx⟩:=h;obtain⟨y,rfl,hy⟩:=k;exact⟨x*y,by simp,by rw[Int.natAbs_mul];exact Nat.mul_le_mul hx hy⟩
theorem Whole.neg{B:Nat}{p:Rat}(h:Whole B p):Whole B (-p):=by
 obtain⟨x,rfl,hx⟩:=h;exact⟨-x,by simp,by omega⟩
theorem whole_sm{B:Nat}{f:Nat->Rat}(n:Nat)(h:∀i,i < n->Whole B (f i)):Whole (n*B) (sm n f):=by
 induction n with
 |zero=>exact⟨0,rfl,by simp⟩
 |succ n ih=>
  have:=(ih (fun i hi=>h i (by omega))).add (h n (by omega));rw[Nat.succ_mul];exact this
theorem qBj(j:Nat):Whole 1 (sg j):=by
 unfold sg;split
 ·exact⟨1,rfl,by decide⟩
 ·exact⟨-1,rfl,by decide⟩
theorem X5{m:Nat}:∀(M:Nat->Nat->Rat),(∀j,j < m->∀i,i < m->Whole 1 (M j i))->Whole (fac m) (det m M):=by
 induction m with
 |zero=>intro M _;exact⟨1,rfl,by decide⟩
 |succ m ih=>
  intro M h;show Whole ((m+1)*fac m) (sm (m+1) _);refine whole_sm (m+1) (fun j hj=>?_);have h1:=ih (minor j M) (fun a ha b hb=>h _ (by unfold skip;split <;> omega) _ (by omega));have h2:=((qBj j).mul (h j hj 0 (by omega))).mul h1;simpa using h2
end Go.Proofs.YtjbpgdpciinlcaaGreat.Cov
namespace Go.Proofs.YtjbpgdpciinlcaaGreat.Cov
structure Inv(m n:Nat)(A:Nat->Nat->Rat)(T:Nat->Nat->Rat)(B:Nat->Nat):Prop where
 lt:∀i,i < m->B i < n
 unit:∀i,i < m->∀k,k < m->T i (B k)=if i=k then 1 else 0
 col:∀j,j<=n->∀r,r < m->A j r=sm m (fun i=>T i j*A (B i) r)
 dne:det m (fun i=>A (B i))≠0
theorem Inv.inj{m n:Nat}{A T:Nat->Nat->Rat}{B:Nat->Nat}(h:Inv m n A T B){i k:Nat}(hi:i < m)(hk:k < m)(e:B i=B k):i=k:=by
 have h1:=h.unit i hi k hk;have h2:=h.unit i hi i hi;rw[if_pos rfl]at h2;rw[<-e,h2]at h1;by_cases e2:i=k
 ·exact e2
 ·rw[if_neg e2]at h1;grind
def pivT(T:Nat->Nat->Rat)(r c:Nat):Nat->Nat->Rat:=fun i j=>if i=r then T r j / T r c else T i j - T i c*(T r j / T r c)
def pivB(B:Nat->Nat)(r c:Nat):Nat->Nat:=fun i=>if i=r then c else B i
theorem yM{m r:Nat}(hr:r < m)(f:Nat->Rat):sm m f=f r+sm m (fun i=>if i=r then 0 else f i):=by
 have h1:sm m f=sm m (fun i=>(if i=r then f r else 0)+(if i=r then 0 else f i)):=by
  refine sm_congr (fun i _=>?_);by_cases e:i=r
  ·subst e;rw[if_pos rfl,if_pos rfl];grind
  ·rw[if_neg e,if_neg e];grind
 rw[h1,sm_add,sm_single (k:=r) hr]
 ·rw[if_pos rfl]
 ·intro i _ hne;rw[if_neg hne]
theorem Inv.pivot{m n:Nat}{A T:Nat->Nat->Rat}{B:Nat->Nat}(h:Inv m n A T B){r c:Nat}(hr:r < m)(hc:c < n)(hp:T r c≠0):
 Inv m n A (pivT T r c) (pivB B r c):=by
 refine⟨?_,?_,?_,?_⟩
 ·intro i hi;unfold pivB;split
  ·exact hc
  ·exact h.lt i hi
 ·intro i hi k hk;unfold pivT pivB;by_cases ek:k=r
  ·subst ek;rw[if_pos rfl];by_cases ei:i=k
   ·subst ei;rw[if_pos rfl,if_pos rfl];grind
   ·rw[if_neg ei,if_neg ei];grind
  ·rw[if_neg ek];have h1:=h.unit r hr k hk;rw[if_neg (by omega)]at h1;rw[h1];by_cases ei:i=r
   ·subst ei;rw[if_pos rfl,if_neg (by omega)];grind
   ·rw[if_neg ei,h.unit i hi k hk];grind
 ·intro j hj s hs;have h1:=h.col j hj s hs;have h2:=h.col c (by omega) s hs;rw[yM hr]at h1 h2;rw[yM hr]
  have e1:sm m (fun i=>if i=r then 0 else pivT T r c i j*A (pivB B r c i) s)=sm m (fun i=>if i=r then 0 else T i j*A (B i) s) - (T r j / T r c)*sm m (fun i=>if i=r then 0 else T i c*A (B i) s):=by
   have e2:(fun i=>if i=r then 0 else pivT T r c i j*A (pivB B r c i) s)=fun i=>(if i=r then 0 else T i j*A (B i) s)+(-(T r j / T r c))*(if i=r then 0 else T i c*A (B i) s):=by
    funext i;unfold pivT pivB;by_cases ei:i=r
    ·rw[if_pos ei,if_pos ei,if_pos ei];grind
    ·rw[if_neg ei,if_neg ei,if_neg ei,if_neg ei,if_neg ei];grind
   rw[e2,sm_add,sm_mul];grind
  rw[e1];have e3:pivT T r c r j=T r j / T r c:=if_pos rfl;have e4:pivB B r c r=c:=if_pos rfl;rw[e3,e4,h1,h2];grind
 ·have e1:det m (fun i=>A (pivB B r c i))=det m (upd (fun i=>A (B i)) r (A c)):=by
   refine uY (fun j _ i _=>?_);unfold upd pivB;split <;> rfl
  rw[e1,VL (fun i=>A (B i)) r hr (fun i=>T i c) (A c) (fun s hs=>h.col c (by omega) s hs)];have:=h.dne;grind
theorem Inv.entry{m n:Nat}{A T:Nat->Nat->Rat}{B:Nat->Nat}(h:Inv m n A T B){i j:Nat}(hi:i < m)(hj:j<=n):
 det m (upd (fun i=>A (B i)) i (A j))=T i j*det m (fun i=>A (B i)):=
 VL (fun i=>A (B i)) i hi (fun i=>T i j) (A j) (fun s hs=>h.col j hj s hs)
theorem Inv.small{m n:Nat}{A T:Nat->Nat->Rat}{B:Nat->Nat}(h:Inv m n A T B)(hA:∀j,j<=n->∀r,r < m->Whole 1 (A j r)):
 ∃D:Int,D≠0/\D.natAbs<=fac m/\∀i,i < m->∀j,j<=n->Whole (fac m) (T i j*D):=by
 have hB:∀j,j < m->∀i,i < m->Whole 1 ((fun i=>A (B i)) j i):=fun j hj i hi=>hA _ (Nat.le_of_lt (h.lt j hj)) i hi;obtain⟨D,hD,hDb⟩:=X5 (fun i=>A (B i)) hB;refine⟨D,?_,hDb,?_⟩
 ·intro e;apply h.dne;rw[hD,e];rfl
 ·intro i hi j hj;rw[<-hD,<-h.entry hi hj];refine X5 _ (fun a ha b hb=>?_);unfold upd;split
  ·exact hA j hj b hb
  ·exact hB a ha b hb
def Sol(m n:Nat)(A:Nat->Nat->Rat)(x:Nat->Rat):Prop:=∀r,r < m->sm n (fun j=>x j*A j r)=A n r
def Hom(m n:Nat)(A:Nat->Nat->Rat)(x:Nat->Rat):Prop:=∀r,r < m->sm n (fun j=>x j*A j r)=0
theorem Inv.comb{m n:Nat}{A T:Nat->Nat->Rat}{B:Nat->Nat}(h:Inv m n A T B)(x:Nat->Rat)(r:Nat)(hr:r < m):
 sm n (fun j=>x j*A j r)=sm m (fun i=>sm n (fun j=>T i j*x j)*A (B i) r):=by
 have e1:sm n (fun j=>x j*A j r)=sm n (fun j=>sm m (fun i=>T i j*x j*A (B i) r)):=by
  refine sm_congr (fun j hj=>?_);rw[h.col j (by omega) r hr,<-sm_mul];exact sm_congr (fun i _=>by grind)
 rw[e1,vm];refine sm_congr (fun i _=>?_);have e2:(fun j=>T i j*x j*A (B i) r)=fun j=>A (B i) r*(T i j*x j):=by funext j;grind
 rw[e2,sm_mul];grind
theorem Inv.hom_rows{m n:Nat}{A T:Nat->Nat->Rat}{B:Nat->Nat}(h:Inv m n A T B){x:Nat->Rat}(hx:Hom m n A x):
 ∀i,i < m->sm n (fun j=>T i j*x j)=0:=
 Xz (fun i=>A (B i)) h.dne (fun i=>sm n (fun j=>T i j*x j)) (fun r hr=>by rw[<-h.comb x r hr];exact hx r hr)
theorem Inv.sol_rows{m n:Nat}{A T:Nat->Nat->Rat}{B:Nat->Nat}(h:Inv m n A T B){x:Nat->Rat}(hx:Sol m n A x):
 ∀i,i < m->sm n (fun j=>T i j*x j)=T i n:=by
 have key:=Xz (fun i=>A (B i)) h.dne (fun i=>sm n (fun j=>T i j*x j) - T i n) (fun r hr=>by
  have e1:=h.comb x r hr;rw[hx r hr,h.col n (nR _) r hr]at e1;have e2:(fun k=>(sm n (fun j=>T k j*x j) - T k n)*A (B k) r)=fun k=>sm n (fun j=>T k j*x j)*A (B k) r+(-1)*(T k n*A (B k) r):=by funext k;grind
  show sm m (fun k=>(sm n (fun j=>T k j*x j) - T k n)*A (B k) r)=0;rw[e2,sm_add,sm_mul,<-e1];grind)
 intro i hi;have:=key i hi;grind
def red(m:Nat)(cost:Nat->Rat)(T:Nat->Nat->Rat)(B:Nat->Nat):Nat->Rat:=fun j=>cost j - sm m (fun i=>cost (B i)*T i j)
theorem Jm{m n:Nat}(cost:Nat->Rat)(T:Nat->Nat->Rat)(B:Nat->Nat)(x:Nat->Rat)(t:Nat->Rat)(hx:∀i,i < m->sm n (fun j=>T i j*x j)=t i):
 sm n (fun j=>red m cost T B j*x j)=sm n (fun j=>cost j*x j) - sm m (fun i=>cost (B i)*t i):=by
 have e1:(fun j=>red m cost T B j*x j)=fun j=>cost j*x j+(-1)*sm m (fun i=>cost (B i)*(T i j*x j)):=by
  funext j;unfold red
  have:sm m (fun i=>cost (B i)*(T i j*x j))=x j*sm m (fun i=>cost (B i)*T i j):=by
   rw[<-sm_mul];exact sm_congr (fun i _=>by grind)
  rw[this];grind
 rw[e1,sm_add,sm_mul,vm]
 have e2:sm m (fun i=>sm n (fun j=>cost (B i)*(T i j*x j)))=sm m (fun i=>cost (B i)*t i):=by
  refine sm_congr (fun i hi=>?_);rw[sm_mul,hx i hi]
 rw[e2];grind
theorem Inv.cost_hom{m n:Nat}{A T:Nat->Nat->Rat}{B:Nat->Nat}(h:Inv m n A T B)(cost:Nat->Rat){x:Nat->Rat}(hx:Hom m n A x):
 sm n (fun j=>cost j*x j)=sm n (fun j=>red m cost T B j*x j):=by
 have e:sm m (fun i=>cost (B i)*(fun _=>(0:Rat)) i)=0:=sm_zero (fun i _=>by grind);rw[Jm cost T B x (fun _=>0) (h.hom_rows hx),e];grind
theorem Inv.cost_sol{m n:Nat}{A T:Nat->Nat->Rat}{B:Nat->Nat}(h:Inv m n A T B)(cost:Nat->Rat){x:Nat->Rat}(hx:Sol m n A x):
 sm n (fun j=>cost j*x j)=sm n (fun j=>red m cost T B j*x j)+sm m (fun i=>cost (B i)*T i n):=by
 rw[Jm cost T B x (fun i=>T i n) (h.sol_rows hx)];grind
theorem Inv.red_basic{m n:Nat}{A T:Nat->Nat->Rat}{B:Nat->Nat}(h:Inv m n A T B)(cost:Nat->Rat){k:Nat}(hk:k < m):red m cost T B (B k)=0:=by
 unfold red;rw[sm_single (k:=k) hk]
 ·rw[h.unit k hk k hk,if_pos rfl];grind
 ·intro i hi hne;rw[h.unit i hi k hk,if_neg hne];grind
theorem red_pivot{m n:Nat}{A T:Nat->Nat->Rat}{B:Nat->Nat}(h:Inv m n A T B)(cost:Nat->Rat){r c:Nat}(hr:r < m)(hp:T r c≠0)(j:Nat):
 red m cost (pivT T r c) (pivB B r c) j=red m cost T B j - red m cost T B c*(T r j / T r c):=by
 unfold red;rw[yM hr,yM hr (fun i=>cost (B i)*T i j),yM hr (fun i=>cost (B i)*T i c)]
 have e1:sm m (fun i=>if i=r then 0 else cost (pivB B r c i)*pivT T r c i j)=sm m (fun i=>if i=r then 0 else cost (B i)*T i j) - (T r j / T r c)*sm m (fun i=>if i=r then 0 else cost (B i)*T i c):=by
  have e2:(fun i=>if i=r then 0 else cost (pivB B r c i)*pivT T r c i j)=fun i=>(if i=r then 0 else cost (B i)*T i j)+(-(T r j / T r c))*(if i=r then 0 else cost (B i)*T i c):=by
   funext i;unfold pivT pivB;by_cases ei:i=r
   ·rw[if_pos ei,if_pos ei,if_pos ei];grind
   ·rw[if_neg ei,if_neg ei,if_neg ei,if_neg ei,if_neg ei];grind
  rw[e2,sm_add,sm_mul];grind
 rw[e1];have e3:pivT T r c r j=T r j / T r c:=if_pos rfl;have e4:pivB B r c r=c:=if_pos rfl;rw[e3,e4];have:=h.dne;grind
def val(m:Nat)(t:Nat->Rat)(B:Nat->Nat)(j:Nat):Rat:=sm m (fun i=>if B i=j then t i else 0)
theorem Inv.val_basic{m n:Nat}{A T:Nat->Nat->Rat}{B:Nat->Nat}(h:Inv m n A T B)(t:Nat->Rat){k:Nat}(hk:k < m):val m t B (B k)=t k:=by
 unfold val;rw[sm_single (k:=k) hk]
 ·rw[if_pos rfl]
 ·intro i hi hne;rw[if_neg (fun e=>hne (h.inj hi hk e))]
theorem val_not{m:Nat}{t:Nat->Rat}{B:Nat->Nat}{j:Nat}(hj:∀i,i < m->B i≠j):val m t B j=0:=
 sm_zero (fun i hi=>if_neg (hj i hi))
theorem Zc{m n:Nat}(t:Nat->Rat)(B:Nat->Nat)(hB:∀i,i < m->B i < n)(f:Nat->Rat):
 sm n (fun j=>val m t B j*f j)=sm m (fun i=>t i*f (B i)):=by
 have e1:sm n (fun j=>val m t B j*f j)=sm n (fun j=>sm m (fun i=>if B i=j then t i*f (B i) else 0)):=by
  refine sm_congr (fun j _=>?_);unfold val
  have:f j*sm m (fun i=>if B i=j then t i else 0)=sm m (fun i=>if B i=j then t i*f (B i) else 0):=by
   rw[<-sm_mul];refine sm_congr (fun i _=>?_);by_cases e:B i=j
   ·rw[if_pos e,if_pos e,e];grind
   ·rw[if_neg e,if_neg e];grind
  rw[<-this];grind
 rw[e1,vm];refine sm_congr (fun i hi=>?_);rw[sm_single (k:=B i) (hB i hi)]
 ·rw[if_pos rfl]
 ·intro j _ hne;rw[if_neg (fun e=>hne e.symm)]
theorem Inv.sol_basic{m n:Nat}{A T:Nat->Nat->Rat}{B:Nat->Nat}(h:Inv m n A T B):Sol m n A (val m (fun i=>T i n) B):=by
 intro r hr;rw[Zc (fun i=>T i n) B h.lt (fun j=>A j r),h.col n (nR _) r hr]
def ray(m:Nat)(T:Nat->Nat->Rat)(B:Nat->Nat)(s:Nat)(j:Nat):Rat:=(if j=s then 1 else 0)+val m (fun i=>- T i s) B j
theorem Inv.hom_ray{m n:Nat}{A T:Nat->Nat->Rat}{B:Nat->Nat}(h:Inv m n A T B){s:Nat}(hs:s < n):Hom m n A (ray m T B s):=by
 intro r hr
 have e1:(fun j=>ray m T B s j*A j r)=fun j=>(if j=s then A s r else 0)+val m (fun i=>- T i s) B j*A j r:=by
  funext j;unfold ray;by_cases e:j=s
  ·subst e;rw[if_pos rfl,if_pos rfl];grind
  ·rw[if_neg e,if_neg e];grind
 rw[e1,sm_add,Zc _ B h.lt (fun j=>A j r),sm_single (k:=s) hs]
 ·rw[if_pos rfl,h.col s (by omega) r hr,<-sm_add];exact sm_zero (fun i _=>by grind)
 ·intro j _ hne;rw[if_neg hne]
theorem Inv.ray_cost{m n:Nat}{A T:Nat->Nat->Rat}{B:Nat->Nat}(h:Inv m n A T B)(cost:Nat->Rat){s:Nat}(hs:s < n):
 sm n (fun j=>cost j*ray m T B s j)=red m cost T B s:=by
 rw[h.cost_hom cost (h.hom_ray hs)]
 have e1:(fun j=>red m cost T B j*ray m T B s j)=fun j=>(if j=s then red m cost T B s else 0)+val m (fun i=>- T i s) B j*red m cost T B j:=by
  funext j;unfold ray;by_cases e:j=s
  ·subst e;rw[if_pos rfl,if_pos rfl];grind
  ·rw[if_neg e,if_neg e];grind
 rw[e1,sm_add,Zc _ B h.lt,sm_single (k:=s) hs]
 ·rw[if_pos rfl,sm_zero (fun i hi=>by rw[h.red_basic cost hi];grind)];grind
 ·intro j _ hne;rw[if_neg hne]
end Go.Proofs.YtjbpgdpciinlcaaGreat.Cov
namespace Go.Proofs.YtjbpgdpciinlcaaGreat.Cov
structure Run(m n:Nat)(A:Nat->Nat->Rat)(cost:Nat->Rat)(bar:Nat->Bool)(N:Nat)(T:Nat->Nat->Nat->Rat)(B:Nat->Nat->Nat)(r c:Nat->Nat):Prop where
 inv:∀k,k<=N->Inv m n A (T k) (B k)
 feas:∀k,k<=N->∀i,i < m->0<=T k i n
 rlt:∀k,k < N->r k < m
 clt:∀k,k < N->c k < n
 unbar:∀k,k < N->bar (c k)=false
 neg:∀k,k < N->red m cost (T k) (B k) (c k) < 0
 least:∀k,k < N->∀j,j < c k->bar j=false->0<=red m cost (T k) (B k) j
 pos:∀k,k < N->0 < T k (r k) (c k)
 tie:∀k,k < N->∀i,i < m->0 < T k i (c k)->T k i n / T k i (c k)=T k (r k) n / T k (r k) (c k)->B k (r k)<=B k i
 nextT:∀k,k < N->T (k+1)=pivT (T k) (r k) (c k)
 nextB:∀k,k < N->B (k+1)=pivB (B k) (r k) (c k)
def InB(m:Nat)(B:Nat->Nat)(j:Nat):Prop:=∃i,i < m/\B i=j
def obj(m n:Nat)(cost:Nat->Rat)(T:Nat->Nat->Rat)(B:Nat->Nat):Rat:=sm m (fun i=>cost (B i)*T i n)
theorem qAe{m n:Nat}{A T:Nat->Nat->Rat}{B:Nat->Nat}(h:Inv m n A T B)(cost:Nat->Rat){r c:Nat}(hr:r < m)(hp:T r c≠0):
 obj m n cost (pivT T r c) (pivB B r c)=obj m n cost T B+red m cost T B c*(T r n / T r c):=by
 have h1:=red_pivot h cost hr hp n;have e:∀(T':Nat->Nat->Rat) (B':Nat->Nat),red m cost T' B' n=cost n - obj m n cost T' B':=fun _ _=>rfl;rw[e,e]at h1;grind
theorem XI{m n:Nat}{A T:Nat->Nat->Rat}{B:Nat->Nat}(h:Inv m n A T B)(cost:Nat->Rat):
 obj m n cost T B=sm n (fun j=>val m (fun i=>T i n) B j*cost j):=by
 rw[Zc _ B h.lt];exact sm_congr (fun i _=>by grind)
theorem jP{a b:Rat}(ha:0<=a)(hb:0 < b):0<=a / b:=by
 rw[Rat.div_def];exact Rat.mul_nonneg ha (Rat.le_of_lt (Rat.inv_pos.2 hb))
theorem vR{a b:Rat}(ha:a<=0)(hb:0<=b):a*b<=0:=by
 have:=Rat.mul_nonneg (show 0<=-a by grind) hb;grind
theorem vd{a b:Rat}(ha:a<=0)(hb:b<=0):0<=a*b:=by
 have:=Rat.mul_nonneg (show 0<=-a by grind) (show 0<=-b by grind);grind
section
variable {m n:Nat} {A:Nat->Nat->Rat} {cost:Nat->Rat} {bar:Nat->Bool} {N:Nat} {T:Nat->Nat->Nat->Rat} {B:Nat->Nat->Nat} {r c:Nat->Nat}
theorem Run.obj_step(h:Run m n A cost bar N T B r c){k:Nat}(hk:k < N):
 obj m n cost (T (k+1)) (B (k+1))=obj m n cost (T k) (B k)+red m cost (T k) (B k) (c k)*(T k (r k) n / T k (r k) (c k)):=by
 rw[h.nextT k hk,h.nextB k hk];have:=h.pos k hk;exact qAe (h.inv k (by omega)) cost (h.rlt k hk) (by grind)
theorem Run.ratio_nonneg(h:Run m n A cost bar N T B r c){k:Nat}(hk:k < N):0<=T k (r k) n / T k (r k) (c k):=
 jP (h.feas k (by omega) _ (h.rlt k hk)) (h.pos k hk)
theorem Run.obj_le(h:Run m n A cost bar N T B r c)(a:Nat):∀d,a+d<=N->obj m n cost (T (a+d)) (B (a+d))<=obj m n cost (T a) (B a)
 |0,_=>by rw[Nat.add_zero];grind
 |d+1,hd=>by
  have h1:=Run.obj_le h a d (by omega);have h2:=h.obj_step (k:=a+d) (by omega);have h3:=vR (Rat.le_of_lt (h.neg (a+d) (by omega))) (h.ratio_nonneg (k:=a+d) (by omega));rw[show a+(d+1)=a+d+1 by omega,h2];grind
theorem qBh{T1 T2:Nat->Nat->Rat}{B1 B2:Nat->Nat}(h1:Inv m n A T1 B1)(h2:Inv m n A T2 B2)(hs:∀j,InB m B2 j->InB m B1 j):
 ∀j,j < n->val m (fun i=>T1 i n) B1 j=val m (fun i=>T2 i n) B2 j:=by
 have hd:Hom m n A (fun j=>val m (fun i=>T1 i n) B1 j+(-1)*val m (fun i=>T2 i n) B2 j):=by
  intro q hq;have e:(fun j=>(val m (fun i=>T1 i n) B1 j+(-1)*val m (fun i=>T2 i n) B2 j)*A j q)=fun j=>val m (fun i=>T1 i n) B1 j*A j q+(-1)*(val m (fun i=>T2 i n) B2 j*A j q):=by funext j;grind
  rw[e,sm_add,sm_mul,h1.sol_basic q hq,h2.sol_basic q hq];grind
 have hr:=h1.hom_rows hd
 have hz:∀j,¬InB m B1 j->val m (fun i=>T1 i n) B1 j=0/\val m (fun i=>T2 i n) B2 j=0:=by
  intro j hj;exact⟨val_not (fun i hi e=>hj ⟨i,hi,e⟩),val_not (fun i hi e=>hj (hs j ⟨i,hi,e⟩))⟩
 intro j hj;by_cases hb:InB m B1 j
 ·obtain⟨i,hi,rfl⟩:=hb;have h3:=hr i hi;rw[sm_single (k:=B1 i) (h1.lt i hi)]at h3
  ·rw[h1.unit i hi i hi,if_pos rfl]at h3;grind
  ·intro j' hj' hne;by_cases hb':InB m B1 j'
   ·obtain⟨i',hi',rfl⟩:=hb';rw[h1.unit i hi i' hi',if_neg (fun e=>hne (by rw[e]))];grind
   ·obtain⟨z1,z2⟩:=hz j' hb';rw[z1,z2];grind
 ·obtain⟨z1,z2⟩:=hz j hb;rw[z1,z2]
theorem Run.leave(h:Run m n A cost bar N T B r c)(j a:Nat):∀d,a+d<=N->InB m (B a) j->¬InB m (B (a+d)) j->∃k,a<=k/\k < a+d/\B k (r k)=j
 |0,_,h1,h2=>absurd h1 h2
 |d+1,hd,h1,h2=>by
  by_cases h3:InB m (B (a+d)) j
  ·refine⟨a+d,by omega,by omega,?_⟩;obtain⟨i,hi,hj⟩:=h3;by_cases e:i=r (a+d)
   ·rw[<-e];exact hj
   ·exfalso;apply h2;refine⟨i,hi,?_⟩;rw[show a+(d+1)=a+d+1 by omega,h.nextB (a+d) (by omega)];unfold pivB;rw[if_neg e];exact hj
  ·obtain⟨k,h4,h5,h6⟩:=Run.leave h j a d (by omega) h1 h3;exact⟨k,h4,by omega,h6⟩
theorem Run.enter(h:Run m n A cost bar N T B r c)(j a:Nat):∀d,a+d<=N->¬InB m (B a) j->InB m (B (a+d)) j->∃k,a<=k/\k < a+d/\c k=j
 |0,_,h1,h2=>absurd h2 h1
 |d+1,hd,h1,h2=>by
  by_cases h3:InB m (B (a+d)) j
  ·obtain⟨k,h4,h5,h6⟩:=Run.enter h j a d (by omega) h1 h3;exact⟨k,h4,by omega,h6⟩
  ·refine⟨a+d,by omega,by omega,?_⟩;obtain⟨i,hi,hj⟩:=h2;rw[show a+(d+1)=a+d+1 by omega,h.nextB (a+d) (by omega)]at hj;unfold pivB at hj;by_cases e:i=r (a+d)
   ·rw[if_pos e]at hj;exact hj
   ·rw[if_neg e]at hj;exact absurd ⟨i,hi,hj⟩ h3
theorem VF(c:Nat->Nat)(p:Nat):∀d,∃l,p<=l/\l < p+d+1/\∀k,p<=k->k < p+d+1->c k<=c l
 |0=>⟨p,by omega,by omega,fun k h1 h2=>by rw[show k=p by omega];exact nR _⟩
 |d+1=>by
  obtain⟨l,h1,h2,h3⟩:=VF c p d;by_cases e:c l<=c (p+d+1)
  ·refine⟨p+d+1,by omega,by omega,fun k h4 h5=>?_⟩;by_cases e2:k=p+d+1
   ·rw[e2];exact nR _
   ·exact bK (h3 k h4 (by omega)) e
  ·refine⟨l,h1,by omega,fun k h4 h5=>?_⟩;by_cases e2:k=p+d+1
   ·rw[e2];omega
   ·exact h3 k h4 (by omega)
theorem Run.no_cycle(h:Run m n A cost bar N T B r c)(p d:Nat)(hq:p+d+1<=N)(same:∀j,InB m (B p) j↔InB m (B (p+d+1)) j):False:=by
 have hobj:obj m n cost (T (p+d+1)) (B (p+d+1))=obj m n cost (T p) (B p):=by
  rw[XI (h.inv _ hq) cost,XI (h.inv p (by omega)) cost];refine sm_congr (fun j hj=>?_);rw[qBh (h.inv p (by omega)) (h.inv _ hq) (fun j hj=>(same j).2 hj) j hj]
 have hzero:∀k,p<=k->k < p+d+1->T k (r k) n=0:=by
  intro k h1 h2;have e1:=h.obj_le p (k - p) (by omega);have e2:=h.obj_le (k+1) (p+d+1 - (k+1)) (by omega);rw[show p+(k - p)=k by omega]at e1;rw[show k+1+(p+d+1 - (k+1))=p+d+1 by omega]at e2;have e3:=h.obj_step (k:=k) (by omega);have e4:=h.ratio_nonneg (k:=k) (by omega);have e5:=h.neg k (by omega);have e6:=h.pos k (by omega)
  have e7:red m cost (T k) (B k) (c k)*(T k (r k) n / T k (r k) (c k))=0:=by
   have:=vR (Rat.le_of_lt e5) e4;grind
  have e8:T k (r k) n / T k (r k) (c k)=0:=by
   rcases Rat.mul_eq_zero.1 e7 with e|e
   ·grind
   ·exact e
  grind
 have hval:∀e,e<=d+1->∀j,val m (fun i=>T (p+e) i n) (B (p+e)) j=val m (fun i=>T p i n) (B p) j:=by
  intro e;induction e with
  |zero=>intro _ j;rfl
  |succ e ih=>
   intro he j;rw[<-ih (by omega) j];have hz:=hzero (p+e) (by omega) (by omega);refine sm_congr (fun i hi=>?_);rw[show p+(e+1)=p+e+1 by omega,h.nextT (p+e) (by omega),h.nextB (p+e) (by omega)];unfold pivT pivB;dsimp only;rw[hz];by_cases ei:i=r (p+e)
   ·rw[if_pos ei,if_pos ei,ei,hz];have:(0:Rat) / T (p+e) (r (p+e)) (c (p+e))=0:=by grind
    rw[this];split <;> split <;> rfl
   ·rw[if_neg ei,if_neg ei];split
    ·grind
    ·rfl
 have hval':∀k,p<=k->k<=p+d+1->∀j,val m (fun i=>T k i n) (B k) j=val m (fun i=>T p i n) (B p) j:=by
  intro k h1 h2 j;have:=hval (k - p) (by omega) j;rwa[show p+(k - p)=k by omega]at this
 obtain⟨l,hl1,hl2,hmax⟩:=VF c p d
 have hnotin:∀k,k < N->¬InB m (B k) (c k):=by
  intro k hk ⟨i,hi,e⟩;have h1:=h.neg k hk;rw[<-e,(h.inv k (by omega)).red_basic cost hi]at h1;grind
 have hin:InB m (B (l+1)) (c l):=by
  refine⟨r l,h.rlt l (by omega),?_⟩;rw[h.nextB l (by omega)];exact if_pos rfl
 obtain⟨k,hk1,hk2,hk3⟩:∃k,p<=k/\k < p+d+1/\B k (r k)=c l:=by
  by_cases hc:InB m (B (p+d+1)) (c l)
  ·have h1:=(same (c l)).2 hc;have h2:=hnotin l (by omega);rw[show l=p+(l - p)by omega]at h2;have h2':¬InB m (B (p+(l - p))) (c l):=by rw[show p+(l - p)=l by omega];exact hnotin l (by omega)
   obtain⟨k,a,b,e⟩:=h.leave (c l) p (l - p) (by omega) h1 h2';exact⟨k,a,by omega,e⟩
  ·have h2':¬InB m (B (l+1+(p+d+1 - (l+1)))) (c l):=by rw[show l+1+(p+d+1 - (l+1))=p+d+1 by omega];exact hc
   obtain⟨k,a,b,e⟩:=h.leave (c l) (l+1) (p+d+1 - (l+1)) (by omega) hin h2';exact⟨k,by omega,by omega,e⟩
 have hIk:=h.inv k (by omega);have hIl:=h.inv l (by omega)
 have hst:c k < c l:=by
  have h1:=hmax k hk1 hk2;by_cases e:c k=c l
  ·exfalso;apply hnotin k (by omega);exact⟨r k,h.rlt k (by omega),by rw[hk3,e]⟩
  ·omega
 have hsum:sm n (fun j=>red m cost (T l) (B l) j*ray m (T k) (B k) (c k) j) < 0:=by
  rw[<-hIl.cost_hom cost (hIk.hom_ray (h.clt k (by omega))),hIk.ray_cost cost (h.clt k (by omega))];exact h.neg k (by omega)
 have hex:∃j,j < n/\red m cost (T l) (B l) j*ray m (T k) (B k) (c k) j < 0:=by
  by_cases hall:∀j,j < n->0<=red m cost (T l) (B l) j*ray m (T k) (B k) (c k) j
  ·have:=za hall;grind
  ·have ⟨j,hj⟩:=Classical.not_forall.1 hall;have ⟨h1,h2⟩:=Classical.not_imp.1 hj;exact⟨j,h1,by grind⟩
 obtain⟨j,hj,hneg⟩:=hex;by_cases hb:InB m (B k) j
 ·obtain⟨i,hi,rfl⟩:=hb;have hne:B k i≠c k:=fun e=>hnotin k (by omega) ⟨i,hi,e⟩
  have hray:ray m (T k) (B k) (c k) (B k i)=- T k i (c k):=by
   unfold ray;rw[if_neg hne,hIk.val_basic (fun i=>- T k i (c k)) hi];grind
  rw[hray]at hneg
  have hnl:¬InB m (B l) (B k i):=by
   intro ⟨i',hi',e⟩;rw[<-e,hIl.red_basic cost hi']at hneg;grind
  obtain⟨k',hk'1,hk'2,hk'3⟩:∃k',p<=k'/\k' < p+d+1/\c k'=B k i:=by
   by_cases hp:InB m (B p) (B k i)
   ·have h1:=(same _).1 hp;rw[show p+d+1=l+(p+d+1 - l)by omega]at h1;obtain⟨k',a,b,e⟩:=h.enter (B k i) l (p+d+1 - l) (by omega) hnl h1;exact⟨k',by omega,by omega,e⟩
   ·have h1:InB m (B (p+(k - p))) (B k i):=by rw[show p+(k - p)=k by omega];exact⟨i,hi,rfl⟩
    obtain⟨k',a,b,e⟩:=h.enter (B k i) p (k - p) (by omega) hp h1;exact⟨k',by omega,by omega,e⟩
  have hle:=hmax k' hk'1 hk'2;rw[hk'3]at hle;by_cases het:B k i=c l
  ·have hir:i=r k:=hIk.inj hi (h.rlt k (by omega)) (by rw[hk3,het]);have h1:=h.pos k (by omega);have h2:=h.neg l (by omega);rw[het,hir]at hneg;have:=vd (Rat.le_of_lt h2) (show - T k (r k) (c k)<=0 by grind);grind
  ·have h1:=h.least l (by omega) (B k i) (by omega) (by rw[<-hk'3];exact h.unbar k' (by omega))
   have h2:0 < T k i (c k):=by
    by_cases e:0 < T k i (c k)
    ·exact e
    ·have:=Rat.mul_nonneg h1 (show 0<=- T k i (c k)by grind);grind
   have h3:T k i n=0:=by
    have e1:=hval' k hk1 (by omega) (B k i);have e2:=hval' l hl1 (by omega) (B k i);rw[hIk.val_basic (fun i=>T k i n) hi]at e1;rw[val_not (fun i' hi' e=>hnl ⟨i',hi',e⟩)]at e2;grind
   have h4:=hzero k hk1 hk2;have h5:=h.tie k (by omega) i hi h2 (by rw[h3,h4];grind);rw[hk3]at h5;omega
 ·by_cases e:j=c k
  ·have h1:=h.least l (by omega) (c k) hst (h.unbar k (by omega))
   have hray:ray m (T k) (B k) (c k) j=1:=by
    unfold ray;rw[if_pos e,val_not (fun i hi e'=>hb ⟨i,hi,e'⟩)];grind
   rw[hray,e]at hneg;grind
  ·have hray:ray m (T k) (B k) (c k) j=0:=by
    unfold ray;rw[if_neg e,val_not (fun i hi e'=>hb ⟨i,hi,e'⟩)];grind
   rw[hray]at hneg;grind
end
theorem VG:∀(N:Nat) (f:Nat->Nat),(∀k,k<=N->f k < N)->∃p q,p < q/\q<=N/\f p=f q
 |0,f,h=>absurd (h 0 (by omega)) (by omega)
 |N+1,f,h=>by
  by_cases hex:∃p,p<=N/\f p=f (N+1)
  ·obtain⟨p,h1,h2⟩:=hex;exact⟨p,N+1,by omega,by omega,h2⟩
  ·have hno:∀p,p<=N->f p≠f (N+1):=fun p hp e=>hex ⟨p,hp,e⟩
   obtain⟨p,q,h1,h2,h3⟩:=VG N (fun k=>if f k=N then f (N+1) else f k) (by
    intro k hk;have h1:=h k (by omega);have h2:=h (N+1) (by omega);have h3:=hno k hk;show(if f k=N then f (N+1) else f k) < N;split <;> omega)
   refine⟨p,q,h1,by omega,?_⟩;have h4:=hno p (by omega);have h5:=hno q (by omega);split at h3 <;> split at h3 <;> omega
def mask(s:Nat->Bool):Nat->Nat
 |0=>0
 |n+1=>mask s n+(if s n then 2 ^ n else 0)
theorem QF(s:Nat->Bool):∀n,mask s n < 2 ^ n
 |0=>by show 0 < 1;omega
 |n+1=>by
  have:=QF s n;show mask s n+(if s n then 2 ^ n else 0) < 2 ^ (n+1);rw[Nat.pow_succ];split <;> omega
theorem VH(s t:Nat->Bool):∀n,mask s n=mask t n->∀j,j < n->s j=t j
 |0,_,j,hj=>absurd hj (by omega)
 |n+1,h,j,hj=>by
  have h1:=QF s n;have h2:=QF t n;have h3:mask s n+(if s n then 2 ^ n else 0)=mask t n+(if t n then 2 ^ n else 0):=h
  have h4:s n=t n:=by
   cases hs:s n <;> cases ht:t n <;> simp[hs,ht]at h3 ⊢ <;> omega
  by_cases e:j=n
  ·rw[e];exact h4
  ·rw[h4]at h3;exact VH s t n (by omega) j (by omega)
theorem Run.bounded{m n:Nat}{A:Nat->Nat->Rat}{cost:Nat->Rat}{bar:Nat->Bool}{T:Nat->Nat->Nat->Rat}{B:Nat->Nat->Nat}{r c:Nat->Nat}(h:Run m n A cost bar (2 ^ n) T B r c):False:=by
 have dec:∀k j,Decidable (InB m (B k) j):=fun k j=>Classical.propDecidable _;obtain⟨p,q,h1,h2,h3⟩:=VG (2 ^ n) (fun k=>mask (fun j=>@decide (InB m (B k) j) (dec k j)) n) (fun k _=>QF _ n);have key:=VH _ _ n h3;refine h.no_cycle p (q - p - 1) (by omega) (fun j=>?_);rw[show p+(q - p - 1)+1=q by omega]
 have hlt:∀k,k<=2 ^ n->InB m (B k) j->j < n:=by
  intro k hk ⟨i,hi,e⟩;rw[<-e];exact(h.inv k hk).lt i hi
 constructor
 ·intro hj;have:=key j (hlt p (by omega) hj);have e:@decide (InB m (B p) j) (dec p j)=true:=by simpa using hj
  rw[e]at this;simpa using this.symm
 ·intro hj;have:=key j (hlt q (by omega) hj);have e:@decide (InB m (B q) j) (dec q j)=true:=by simpa using hj
  rw[e]at this;simpa using this
end Go.Proofs.YtjbpgdpciinlcaaGreat.Cov
