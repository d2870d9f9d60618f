import Derived.Below
import Derived.RowKit
import Derived.Test.YtcnfapnfmnolbaaGreatProg
import Derived.WalkKit
set_option maxHeartbeats 40000000
set_option maxRecDepth 1000000
namespace Go.Proofs.YtcnfapnfmnolbaaGreat
open Go.RowKit
abbrev Bl(a b:World):Prop:=Below a.1.size a b
abbrev Cl:=Calls Tryz.prog
abbrev gD:=@List.getD_eq_getElem?_getD
abbrev gE:=@List.getElem?_eq_getElem
abbrev bL:=@World.block_lt_of_cell?
abbrev bC:=@World.cell?_setCell_other
abbrev fS:=@World.frozen?_setCell
abbrev bD:=@Below.heap_setCell
abbrev bE:=@World.cell?_alloc_at
abbrev bF:=@World.cell?_of_block
abbrev oM:=@World.ownsRow_made
abbrev oN:=@World.ownsRow_nil
abbrev gM:=@List.getElem_mem
abbrev bG:=@World.cell?_setCell_same
abbrev bI:=@heap_setCell_same
abbrev nR:=@_root_.Nat.le_refl
abbrev nZ:=@_root_.Nat.zero_le
abbrev bJ:=@Below.refl
abbrev gO:=@List.getElem_of_mem
abbrev tA:=@List.take_add_one
abbrev tL:=@List.take_length
abbrev lA:=@List.length_append
abbrev lS:=@List.length_singleton
abbrev lM:=@List.length_map
abbrev bK:=@List.getElem?_map
abbrev mA:=@List.map_append
abbrev bM:=@_root_.Nat.le_trans
abbrev bN:=@_root_.Nat.lt_of_lt_of_le
abbrev gN:=@List.getElem?_eq_none
abbrev aL:=@List.getElem?_append_left
abbrev bQ:=@List.getElem?_append_right
abbrev dE:=@decide_eq_true_eq
abbrev bV:=@Bool.and_eq_true
abbrev aT:=@List.all_eq_true
abbrev mC:=@List.mem_cons_of_mem
abbrev bW:=@List.length_take
abbrev tD:=@List.take_append_drop
abbrev aI:=@Go.Addr.mk.injEq
abbrev oI:=@Option.some.injEq
abbrev vI:=@Value.slice.injEq
theorem Oo{P:Prop}(h:P:=by omega):P:=h
theorem Dd{P:Prop}(h:P:=by decide):P:=h
theorem Gg{P:Prop}(h:P:=by go_num):P:=h
theorem Ss{P:Prop}(h:P:=by simp):P:=h
theorem Rr{P:Prop}(h:P:=by grind):P:=h
theorem Fl{P:Prop}(h:P:=by rfl):P:=h
theorem Kl{P:Prop}(h:P:=by kernel_rfl):P:=h
theorem Sy{P:Prop}(h:P:=by simp;omega):P:=h
theorem Um{P:Prop}(h:P:=by unfold maxLen;omega):P:=h
theorem Sg{P:Prop}(h:P:=by simp[go_sem]):P:=h
theorem Nq{P:Prop}(h:P:=by intro e;simp only[Addr.mk.injEq]at e;omega):P:=h
theorem Im{P:Prop}(h:P:=by simp[intOf];omega):P:=h
theorem aK{w:World}{o}:Below w.1.size w (w.alloc o):=(Below.refl _ _).alloc (Nat.le_refl _) _
theorem Ex{a:Sort _}(x:a):∃y,y=x:=⟨_,rfl⟩
abbrev az(b o:Nat):Addr:=⟨b,o,none⟩
abbrev ai:=Value.int .i64
abbrev sn:Value:=.slice none 0 0
abbrev LI:=List Int
abbrev LL:=List (List Int)
def Hh(p:Prop):Prop:=p
theorem Hh.o{p:Prop}(h:Hh p):p:=h
theorem ay{p:Prop}(h:p):Hh p:=h
end Go.Proofs.YtcnfapnfmnolbaaGreat
namespace Go.Proofs.YtcnfapnfmnolbaaGreat.RatM
theorem gcd_step(a b:Int):Int.gcd b (a.tmod b)=Int.gcd a b:=by
 unfold Int.gcd;rw[Int.natAbs_tmod,Nat.gcd_comm a.natAbs,Nat.gcd_rec b.natAbs a.natAbs,Nat.gcd_comm]
theorem natAbs_tmod_lt(a b:Int)(h:b≠0):(a.tmod b).natAbs<b.natAbs:=by
 rw[Int.natAbs_tmod];exact Nat.mod_lt _ Oo
theorem gcd_zero(a:Int):(Int.gcd a 0:Int)=max a (-a):=by
 simp;omega
theorem gcd_pos(a b:Int)(h:b≠0):0<(Int.gcd a b:Int):=by
 have:=Int.gcd_pos_of_ne_zero_right a h;omega
theorem gcd_le(a b:Int)(h:b≠0):(Int.gcd a b:Int)<=b.natAbs:=by
 have:=Nat.gcd_le_right (n:=b.natAbs) a.natAbs Oo;unfold Int.gcd;omega
def frN(num den:Int):Int:=if den<0 then (-num).tdiv (Int.gcd num den) else num.tdiv (Int.gcd num den)
def frD(num den:Int):Int:=if den<0 then (-den).tdiv (Int.gcd num den) else den.tdiv (Int.gcd num den)
theorem tdiv_abs_le(a g:Int):(a.tdiv g).natAbs<=a.natAbs:=by
 rw[Int.natAbs_tdiv];exact Nat.div_le_self _ _
theorem jm(a b:Int)(h:b≠0):Int.gcd (a.tdiv (Int.gcd a b)) (b.tdiv (Int.gcd a b))=1:=by
 unfold Int.gcd;rw[Int.natAbs_tdiv,Int.natAbs_tdiv,Int.natAbs_natCast];exact Nat.gcd_div_gcd_div_gcd_of_pos_right Oo
theorem fr_coprime(a b:Int)(h:b≠0):Int.gcd (frN a b) (frD a b)=1:=by
 unfold frN frD;split;have:=jm (-a) (-b) Oo;simpa using this;exact jm a b h
theorem Zx(a g:Int)(I:0<g)(h:g<=a):0<a.tdiv g:=by
 rw[Int.tdiv_eq_ediv_of_nonneg Oo];have:=Int.ediv_le_ediv I h;rw[Int.ediv_self Oo]at this;omega
theorem frD_pos(a b:Int)(h:b≠0):0<frD a b:=by
 have I:=gcd_pos a b h;have K:=gcd_le a b h;unfold frD;split;exact Zx _ _ I Oo;exact Zx _ _ I Oo
theorem gcd_abs(a b:Int):Int.gcd (a.natAbs:Int) (b.natAbs:Int)=Int.gcd a b:=by
 unfold Int.gcd;simp
theorem gcd_neg_neg(a b:Int):Int.gcd (-a) (-b)=Int.gcd a b:=Ss
theorem qFf(a b:Int):(if b<0 then -a else a)=(Int.gcd a b:Int)*frN a b:=by
 have I:(Int.gcd a b:Int) ∣ a:=Int.gcd_dvd_left ..;unfold frN;split;rw[Int.mul_tdiv_cancel'];exact(Int.dvd_neg).2 I;rw[Int.mul_tdiv_cancel' I]
theorem frN_sign(a b:Int)(h:0<b):(frN a b<0↔a<0)/\(0<frN a b↔0<a):=by
 have K:=gcd_pos a b Oo;have M:=qFf a b;rw[if_neg Oo]at M;generalize (Int.gcd a b:Int)=g at *;generalize frN a b=n at *;subst M;constructor
 ·constructor;intro h;exact Int.mul_neg_of_pos_of_neg K h;intro h;rcases Int.lt_or_le n 0 with I|I;exact I;have:=Int.mul_nonneg (Int.le_of_lt K) I;omega
 constructor;intro h;exact Int.mul_pos K h;intro h;rcases Int.lt_or_le 0 n with I|I;exact I;have:=Int.mul_nonneg (Int.le_of_lt K) (show 0<=-n by omega);rw[Int.mul_neg]at this;omega
def sgn(n:Int):Int:=if n<0 then -1 else if 0<n then 1 else 0
theorem sgn_congr(x n:Int)(h:(x<0↔n<0)/\(0<x↔0<n)):sgn x=sgn n:=by
 obtain⟨I,K⟩:=h;unfold sgn;repeat' split
 all_goals omega
theorem sgn_gt(n:Int)(h:0<n):sgn n=1:=by unfold sgn;rw[if_neg Oo,if_pos h]
end Go.Proofs.YtcnfapnfmnolbaaGreat.RatM
namespace Go.Proofs.YtcnfapnfmnolbaaGreat.Meet
def Asc(l:LI):Prop:=∀i j,i<j->j<l.length->l.getD i 0<l.getD j 0
end Go.Proofs.YtcnfapnfmnolbaaGreat.Meet
namespace Go.Proofs.YtcnfapnfmnolbaaGreat
def yP(nxt:LI->LI)(p:LI):Nat->LL
 |0=>[p]
 |j+1=>(yP nxt p j).flatMap λq=>(nxt q).map λv=>q++[v]
def zE(nxt:LI->LI):Nat->LI->LL
 |0,p=>[p]
 |m+1,p=>p::(nxt p).flatMap λv=>zE nxt m (p++[v])
theorem XE{α β γ:Type}(l:List α)(f:α->List β)(g:β->List γ):(l.flatMap f).flatMap g=l.flatMap λa=>(f a).flatMap g:=by
 induction l with
 |nil=>rfl
 |cons a l ih=>rw[List.flatMap_cons,List.flatMap_append,ih,List.flatMap_cons]
theorem Vl(nxt:LI->LI)(p:LI):∀j,yP nxt p (j+1)=(nxt p).flatMap λv=>yP nxt (p++[v]) j
 |0=>by
  show([p].flatMap λq=>(nxt q).map λv=>q++[v])=(nxt p).flatMap λv=>[p++[v]];rw[List.flatMap_singleton];induction nxt p with
  |nil=>rfl
  |cons a l ih=>rw[List.map_cons,List.flatMap_cons,ih];rfl
 |j+1=>by
  show(yP nxt p (j+1)).flatMap _=_;rw[Vl nxt p j,XE];rfl
theorem kl(nxt:LI->LI)(p:LI):∀j,∀q∈yP nxt p j,q.length=p.length+j
 |0,q,h=>by simp[yP]at h;rw[h];rfl
 |j+1,q,h=>by
  simp only[yP,List.mem_flatMap,List.mem_map]at h;obtain⟨r,I,v,-,rfl⟩:=h;rw[lA,kl nxt p j r I];rfl
theorem jg{α β:Type}(l:List α)(f:α->List β)(q:β->Bool):(l.flatMap f).filter q=l.flatMap λa=>(f a).filter q:=by
 induction l with
 |nil=>rfl
 |cons a l ih=>rw[List.flatMap_cons,List.filter_append,ih,List.flatMap_cons]
theorem Qm(nxt:LI->LI):∀(m:Nat) (p q:LI),q∈zE nxt m p->p.length<=q.length/\q.length<=p.length+m
 |0,p,q,h=>by simp[zE]at h;rw[h];omega
 |m+1,p,q,h=>by
  simp only[zE,List.mem_cons,List.mem_flatMap]at h;rcases h with rfl|⟨v,-,hq⟩;omega;have:=Qm nxt m (p++[v]) q hq;rw[lA,lS]at this;omega
theorem Jf(nxt:LI->LI):∀(m:Nat) (p:LI) (j:Nat),j<=m->(zE nxt m p).filter (λq=>decide (q.length=p.length+j))=yP nxt p j
 |0,p,j,hj=>by
  obtain rfl:j=0:=Oo;simp[zE,yP]
 |m+1,p,0,_=>by
  show((p::(nxt p).flatMap λv=>zE nxt m (p++[v])).filter _)=[p];rw[List.filter_cons,if_pos Ss,jg];have h:∀l:LI,(l.flatMap λv=>(zE nxt m (p++[v])).filter λq=>decide (q.length=p.length+0))=[]:=λl=>by
   rw[List.flatMap_eq_nil_iff];intro v _;rw[List.filter_eq_nil_iff];intro q hq;have:=(Qm nxt m (p++[v]) q hq).1;rw[lA,lS]at this;simp only[decide_eq_true_eq];omega
  rw[h]
 |m+1,p,j+1,hj=>by
  show((p::(nxt p).flatMap λv=>zE nxt m (p++[v])).filter _)=_;rw[List.filter_cons,if_neg Ss,jg,Vl];congr 1;funext v;have:=Jf nxt m (p++[v]) j Oo;rw[lA,lS]at this;rw[<-this];congr 1;funext q;congr 1;rw[eq_iff_iff];omega
def qi(ps:LL)(n:Nat):Nat:=(ps.filter λq=>decide (q.length=n)).length
theorem Qn(ps:LL)(p:LI)(n:Nat):qi (ps++[p]) n=qi ps n+if p.length=n then 1 else 0:=by
 unfold qi;rw[List.filter_append,lA];by_cases h:p.length=n <;> simp[h]
theorem qFK(ps qs:LL)(n:Nat):qi ps n<=qi (ps++qs) n:=by
 unfold qi;rw[List.filter_append,lA];omega
theorem X7(ps:LL):∀k,(∀q∈ps,q.length<=k)->(ps.filter λq=>decide (0<q.length)).length=((List.range k).map λj=>qi ps (j+1)).sum:=by
 induction ps with
 |nil=>
  intro k _;have h:∀k:Nat,((List.range k).map λj=>qi [] (j+1)).sum=0:=λk=>by
   induction k with
   |zero=>rfl
   |succ k ih=>rw[List.range_succ,mA,List.sum_append,ih];rfl
  rw[h];rfl
 |cons p ps ih=>
  intro k h;have K:=ih k λq hq=>h q (mC _ hq);have M:=h p List.mem_cons_self;have I:∀n,qi (p::ps) n=qi ps n+if p.length=n then 1 else 0:=λn=>by
   unfold qi;rw[List.filter_cons];by_cases e:p.length=n <;> simp[e]
  have hs:∀k,p.length<=k->((List.range k).map λj=>qi (p::ps) (j+1)).sum=((List.range k).map λj=>qi ps (j+1)).sum+if 0<p.length then 1 else 0:=λk=>by
   induction k with
   |zero=>
    intro h0;have O:p.length=0:=Oo;rw[O];rfl
   |succ k ihk=>
    intro hk;rw[List.range_succ,mA,List.sum_append,mA,List.sum_append];simp only[List.map_cons,List.map_nil,List.sum_cons,List.sum_nil,Nat.add_zero];rw[I];by_cases e:p.length=k+1
    ·have U:((List.range k).map λj=>qi (p::ps) (j+1))=(List.range k).map λj=>qi ps (j+1):=List.map_congr_left λj V=>by
      rw[I,if_neg (by have:=List.mem_range.1 V;omega)];rfl
     rw[U,if_pos e,if_pos Oo];omega
    rw[ihk Oo,if_neg e];omega
  rw[hs k M,<-K,List.filter_cons];by_cases e:0<p.length;rw[if_pos (by simpa using e),if_pos e,List.length_cons];rw[if_neg (by simpa using e),if_neg e];rfl
end Go.Proofs.YtcnfapnfmnolbaaGreat
namespace Go.Proofs.YtcnfapnfmnolbaaGreat.Cov
def sm:Nat->(Nat->Rat)->Rat
 |0,_=>0
 |n+1,f=>sm n f+f n
theorem sm_congr{n:Nat}{f g:Nat->Rat}(h:∀i,i<n->f i=g i):sm n f=sm n g:=by
 induction n with
 |zero=>rfl
 |succ n ih=>
  show sm n f+f n=sm n g+g n;rw[ih (λi hi=>h i Oo),h n Oo]
theorem sm_zero{n:Nat}{f:Nat->Rat}(h:∀i,i<n->f i=0):sm n f=0:=by
 induction n with
 |zero=>rfl
 |succ n ih=>
  show sm n f+f n=0;rw[ih (λi hi=>h i Oo),h n Oo];grind
theorem sm_add(n:Nat)(f g:Nat->Rat):sm n (λi=>f i+g i)=sm n f+sm n g:=by
 induction n with
 |zero=>show(0:Rat)=0+0;grind
 |succ n ih=>
  show sm n (λi=>f i+g i)+(f n+g n)=(sm n f+f n)+(sm n g+g n);rw[ih];grind
theorem sm_mul(n:Nat)(c:Rat)(f:Nat->Rat):sm n (λi=>c*f i)=c*sm n f:=by
 induction n with
 |zero=>show(0:Rat)=c*0;grind
 |succ n ih=>
  show sm n (λi=>c*f i)+c*f n=c*(sm n f+f n);rw[ih];grind
theorem sm_single{n k:Nat}{f:Nat->Rat}(K:k<n)(h:∀i,i<n->i≠k->f i=0):sm n f=f k:=by
 induction n with
 |zero=>omega
 |succ n ih=>
  show sm n f+f n=f k;by_cases e:k=n;subst e;rw[sm_zero (λi hi=>h i Oo Oo)];grind;rw[ih Oo (λi hi I=>h i Oo I),h n Oo Oo];grind
theorem qGJ{n k l:Nat}{f:Nat->Rat}(I:k<l)(hl:l<n)(h:∀i,i<n->i≠k->i≠l->f i=0):sm n f=f k+f l:=by
 induction n with
 |zero=>omega
 |succ n ih=>
  show sm n f+f n=f k+f l;by_cases e:l=n;subst e;rw[sm_single (k:=k) I (λi hi K=>h i Oo K Oo)];rw[ih Oo (λi hi a b=>h i Oo a b),h n Oo Oo Oo];grind
theorem uy(n m:Nat)(f:Nat->Nat->Rat):sm n (λi=>sm m (λj=>f i j))=sm m (λj=>sm n (λi=>f i j)):=by
 induction n with
 |zero=>exact(sm_zero (λ_ _=>rfl)).symm
 |succ n ih=>
  show sm n (λi=>sm m (λj=>f i j))+sm m (λj=>f n j)=sm m (λj=>sm n (λi=>f i j)+f n j);rw[ih,sm_add]
theorem zn{n:Nat}{f:Nat->Rat}(h:∀i,i<n->0<=f i):0<=sm n f:=by
 induction n with
 |zero=>show(0:Rat)<=0;grind
 |succ n ih=>
  show 0<=sm n f+f n;have I:=ih (λi hi=>h i Oo);have K:=h n Oo;grind
theorem qBe{n:Nat}{f g:Nat->Rat}(h:∀i,i<n->f i<=g i):sm n f<=sm n g:=by
 induction n with
 |zero=>show(0:Rat)<=0;grind
 |succ n ih=>
  show sm n f+f n<=sm n g+g n;have I:=ih (λi hi=>h i Oo);have K:=h n Oo;grind
theorem j7{n:Nat}{f:Nat->Rat}(h:∀i,i<n->0<=f i)(I:sm n f<=0):∀i,i<n->f i=0:=by
 induction n with
 |zero=>intro i hi;omega
 |succ n ih=>
  intro i hi;have M:=zn (λi hi=>h i Oo:∀i,i<n->0<=f i);have O:=h n Oo;have K:sm n f+f n<=0:=I;by_cases e:i=n;subst e;grind;exact ih (λi hi=>h i Oo) Rr i Oo
def skip(j a:Nat):Nat:=if a<j then a else a+1
def qx(j k:Nat):Nat:=if k<j then k else k-1
def sg(j:Nat):Rat:=if j % 2=0 then 1 else -1
def minor(j:Nat)(M:Nat->Nat->Rat):Nat->Nat->Rat:=λa b=>M (skip j a) (b+1)
def det:Nat->(Nat->Nat->Rat)->Rat
 |0,_=>1
 |m+1,M=>sm (m+1) (λj=>sg j*M j 0*det m (minor j M))
def upd(M:Nat->Nat->Rat)(k:Nat)(v:Nat->Rat):Nat->Nat->Rat:=λj i=>if j=k then v i else M j i
theorem je{m:Nat}:∀{M N:Nat->Nat->Rat},(∀j,j<m->∀i,i<m->M j i=N j i)->det m M=det m N:=by
 induction m with
 |zero=>intro M N _;rfl
 |succ m ih=>
  intro M N h;show sm (m+1) _=sm (m+1) _;refine sm_congr (λj I=>?_);rw[h j I 0 Oo,ih (M:=minor j M) (N:=minor j N) (λa K b hb=>?_)];show M (skip j a) (b+1)=N (skip j a) (b+1);exact h _ (by unfold skip;split <;> omega) _ Oo
theorem vg(M:Nat->Nat->Rat)(k:Nat)(v:Nat->Rat):minor k (upd M k v)=minor k M:=by
 funext a b;show(if skip k a=k then v (b+1) else M (skip k a) (b+1))=M (skip k a) (b+1);rw[if_neg];unfold skip;split <;> omega
theorem jH(M:Nat->Nat->Rat)(j k:Nat)(v:Nat->Rat)(h:j≠k):minor j (upd M k v)=upd (minor j M) (qx j k) (λi=>v (i+1)):=by
 funext a b;show(if skip j a=k then v (b+1) else M (skip j a) (b+1))=(if a=qx j k then v (b+1) else M (skip j a) (b+1));by_cases e:skip j a=k;rw[if_pos e,if_pos];unfold qx skip at *;split at e <;> split <;> omega;rw[if_neg e,if_neg];intro I;apply e;unfold qx skip at *;split at I <;> split <;> omega
theorem j8{m:Nat}:∀(M:Nat->Nat->Rat) (k:Nat) (a b:Rat) (u v:Nat->Rat),k<m->
 det m (upd M k (λi=>a*u i+b*v i))=a*det m (upd M k u)+b*det m (upd M k v):=by
 induction m with
 |zero=>intro M k a b u v h;omega
 |succ m ih=>
  intro M k a b u v K;show sm (m+1) _=a*sm (m+1) _+b*sm (m+1) _;rw[<-sm_mul,<-sm_mul,<-sm_add];refine sm_congr (λj O=>?_);by_cases e:j=k;subst e;rw[vg,vg,vg];have I:∀w:Nat->Rat,upd M j w j 0=w 0:=λw=>if_pos rfl;rw[I,I,I];grind;rw[jH _ _ _ _ e,jH _ _ _ _ e,jH _ _ _ _ e];have I:∀w:Nat->Rat,upd M k w j 0=M j 0:=λw=>if_neg e;rw[I,I,I];rw[ih (minor j M) (qx j k) a b (λi=>u (i+1)) (λi=>v (i+1)) (by unfold qx;split <;> omega)];grind
theorem qAH(j k:Nat)(h:j≠k):skip j (qx j k)=k:=by
 by_cases e:k<j;rw[show qx j k=k from if_pos e];exact if_pos e;rw[show qx j k=k-1 from if_neg e,show skip j (k-1)=k-1+1 from if_neg Oo];omega
theorem Uz(j k:Nat)(I:j≠k)(K:j≠k+1):skip j (qx j k+1)=k+1:=by
 by_cases e:k<j;rw[show qx j k=k from if_pos e];exact if_pos Oo;rw[show qx j k=k-1 from if_neg e,show skip j (k-1+1)=k-1+1+1 from if_neg Oo];omega
theorem qE2(k:Nat):sg (k+1)=- sg k:=by
 unfold sg;by_cases h:k % 2=0;rw[if_pos h,if_neg Oo];rw[if_neg h,if_pos Oo];grind
theorem qAw{m:Nat}:∀(M:Nat->Nat->Rat) (k:Nat),k+1<m->(∀i,M k i=M (k+1) i)->det m M=0:=by
 induction m with
 |zero=>intro M k h;omega
 |succ m ih=>
  intro M k O h;show sm (m+1) _=0;rw[qGJ (k:=k) (l:=k+1) Oo Oo]
  ·have e:minor k M=minor (k+1) M:=by
    funext a b;show M (skip k a) (b+1)=M (skip (k+1) a) (b+1);by_cases I:a<k;rw[show skip k a=a by unfold skip;rw[if_pos I],show skip (k+1) a=a by unfold skip;rw[if_pos Oo]];by_cases K:a=k;subst K;rw[show skip a a=a+1 by unfold skip;rw[if_neg Oo],show skip (a+1) a=a by unfold skip;rw[if_pos Oo],h];rw[show skip k a=a+1 by unfold skip;rw[if_neg I],show skip (k+1) a=a+1 by unfold skip;rw[if_neg Oo]]
   rw[e,qE2,h 0];grind
  intro j U I K;rw[ih (minor j M) (qx j k) (by unfold qx;split <;> omega) (λi=>?_)];grind;show M (skip j (qx j k)) (i+1)=M (skip j (qx j k+1)) (i+1);rw[qAH j k I,Uz j k I K,h]
theorem xl(M:Nat->Nat->Rat)(k l:Nat)(u v:Nat->Rat)(h:k≠l):upd (upd M k u) l v=upd (upd M l v) k u:=by
 funext j i;unfold upd;by_cases e:j=k;subst e;rw[if_neg h,if_pos rfl,if_pos rfl];by_cases I:j=l;subst I;rw[if_pos rfl,if_neg e,if_pos rfl];rw[if_neg I,if_neg e,if_neg e,if_neg I]
theorem Z8(M:Nat->Nat->Rat)(k:Nat):upd M k (M k)=M:=by
 funext j i;unfold upd;by_cases e:j=k;subst e;rw[if_pos rfl];rw[if_neg e]
theorem qDe{m:Nat}(M:Nat->Nat->Rat)(k:Nat)(u v:Nat->Rat)(h:k+1<m):
 det m (upd (upd M k u) (k+1) v)=- det m (upd (upd M k v) (k+1) u):=by
 have key:∀a b:Nat->Rat,(∀i,a i=b i)->det m (upd (upd M k a) (k+1) b)=0:=by
  intro a b K;refine qAw _ k h (λi=>?_);unfold upd;rw[if_neg Oo,if_pos rfl,if_pos rfl,K]
 have s:∀i,u i+v i=1*u i+1*v i:=λi=>Rr;have I:=key (λi=>1*u i+1*v i) (λi=>1*u i+1*v i) (λ_=>rfl);rw[j8 _ (k+1) 1 1 u v h]at I;rw[xl _ _ _ _ _ Oo,xl _ _ _ (λi=>1*u i+1*v i) v Oo]at I;rw[j8 _ k 1 1 u v Oo,j8 _ k 1 1 u v Oo]at I;rw[xl _ (k+1) k _ _ Oo,xl _ (k+1) k _ _ Oo,xl _ (k+1) k _ _ Oo,xl _ (k+1) k _ _ Oo]at I;rw[key u u (λ_=>rfl),key v v (λ_=>rfl)]at I;grind
theorem qAx{m:Nat}:∀(g:Nat) (M:Nat->Nat->Rat) (p q:Nat),q-p=g->p<q->q<m->(∀i,M p i=M q i)->det m M=0:=by
 intro g;induction g with
 |zero=>intro M p q K O;omega
 |succ g ih=>
  intro M p q K O I h;by_cases e:q=p+1;subst e;exact qAw M p I h;obtain⟨r,rfl⟩:∃r,q=r+1:=⟨q-1,Oo⟩;have U:M=upd (upd M r (M r)) (r+1) (M (r+1)):=by rw[Z8,Z8]
  rw[U,qDe _ _ _ _ I,ih _ p r Oo Oo Oo];grind;intro i;unfold upd;rw[if_neg Oo,if_neg Oo,if_neg Oo,if_pos rfl,h]
theorem qAI{m:Nat}(M:Nat->Nat->Rat)(p q:Nat)(I:p<m)(hq:q<m)(K:p≠q)(h:∀i,M p i=M q i):det m M=0:=by
 by_cases e:p<q;exact qAx _ M p q rfl e hq h;exact qAx _ M q p rfl Oo I (λi=>(h i).symm)
theorem QZ{m:Nat}(M:Nat->Nat->Rat)(k:Nat)(I:k<m):det m (upd M k (λ_=>0))=0:=by
 have h:=j8 M k 0 0 (λ_=>0) (λ_=>0) I;have e:(λ(i:Nat)=>(0:Rat)*(λ_=>(0:Rat)) i+0*(λ_=>(0:Rat)) i)=λ_=>(0:Rat):=by funext i;grind
 rw[e]at h;grind
theorem qE3{m:Nat}(M:Nat->Nat->Rat)(i:Nat)(hi:i<m)(z:Nat->Rat)(V:Nat->Nat->Rat)(n:Nat):
 det m (upd M i (λr=>sm n (λk=>z k*V k r)))=sm n (λk=>z k*det m (upd M i (V k))):=by
 induction n with
 |zero=>exact QZ M i hi
 |succ n ih=>
  show det m (upd M i (λr=>sm n (λk=>z k*V k r)+z n*V n r))=sm n (λk=>z k*det m (upd M i (V k)))+z n*det m (upd M i (V n));rw[<-ih];have h:=j8 M i 1 (z n) (λr=>sm n (λk=>z k*V k r)) (V n) hi;have e:(λr=>1*sm n (λk=>z k*V k r)+z n*V n r)=(λr=>sm n (λk=>z k*V k r)+z n*V n r):=by funext r;grind
  rw[e]at h;rw[h];grind
theorem U0{m:Nat}(M:Nat->Nat->Rat)(i:Nat)(hi:i<m)(z v:Nat->Rat)(h:∀r,r<m->v r=sm m (λk=>z k*M k r)):
 det m (upd M i v)=z i*det m M:=by
 have K:det m (upd M i v)=det m (upd M i (λr=>sm m (λk=>z k*M k r))):=by
  refine je (λj _ r O=>?_);unfold upd;split;exact h r O;rfl
 rw[K,qE3 M i hi];rw[sm_single (k:=i) hi];rw[Z8];intro k U I;rw[qAI (upd M i (M k)) i k hi U Oo];grind;intro r;unfold upd;rw[if_pos rfl,if_neg I]
theorem Vb{m:Nat}(M:Nat->Nat->Rat)(O:det m M≠0)(z:Nat->Rat)(h:∀r,r<m->sm m (λk=>z k*M k r)=0):∀i,i<m->z i=0:=by
 intro i hi;have I:=U0 M i hi z (λ_=>0) (λr K=>(h r K).symm);rw[QZ M i hi]at I;grind
def fac:Nat->Nat
 |0=>1
 |n+1=>(n+1)*fac n
def Whole(B:Nat)(q:Rat):Prop:=∃z:Int,q=(z:Rat)/\z.natAbs<=B
theorem Whole.mono{B C:Nat}{q:Rat}(h:Whole B q)(I:B<=C):Whole C q:=by
 obtain⟨z,K,M⟩:=h;exact⟨z,K,Oo⟩
theorem Whole.add{B C:Nat}{p q:Rat}(h:Whole B p)(k:Whole C q):Whole (B+C) (p+q):=by
 obtain⟨x,rfl,I⟩:=h;obtain⟨y,rfl,K⟩:=k;exact⟨x+y,Ss,Oo⟩
theorem Whole.mul{B C:Nat}{p q:Rat}(h:Whole B p)(k:Whole C q):Whole (B*C) (p*q):=by
 obtain⟨x,rfl,I⟩:=h;obtain⟨y,rfl,K⟩:=k;exact⟨x*y,Ss,by rw[Int.natAbs_mul];exact Nat.mul_le_mul I K⟩
theorem Whole.neg{B:Nat}{p:Rat}(h:Whole B p):Whole B (-p):=by
 obtain⟨x,rfl,I⟩:=h;exact⟨-x,Ss,Oo⟩
theorem whole_sm{B:Nat}{f:Nat->Rat}(n:Nat)(h:∀i,i<n->Whole B (f i)):Whole (n*B) (sm n f):=by
 induction n with
 |zero=>exact⟨0,rfl,Ss⟩
 |succ n ih=>
  have:=(ih (λi hi=>h i Oo)).add (h n Oo);rw[Nat.succ_mul];exact this
theorem qDf(j:Nat):Whole 1 (sg j):=by
 unfold sg;split;exact⟨1,rfl,Dd⟩;exact⟨-1,rfl,Dd⟩
theorem Vc{m:Nat}:∀(M:Nat->Nat->Rat),(∀j,j<m->∀i,i<m->Whole 1 (M j i))->Whole (fac m) (det m M):=by
 induction m with
 |zero=>intro M _;exact⟨1,rfl,Dd⟩
 |succ m ih=>
  intro M h;show Whole ((m+1)*fac m) (sm (m+1) _);refine whole_sm (m+1) (λj I=>?_);have K:=ih (minor j M) (λa U b hb=>h _ (by unfold skip;split <;> omega) _ Oo);have O:=((qDf j).mul (h j I 0 Oo)).mul K;simpa using O
end Go.Proofs.YtcnfapnfmnolbaaGreat.Cov
namespace Go.Proofs.YtcnfapnfmnolbaaGreat.Cov
structure Inv(m n:Nat)(A:Nat->Nat->Rat)(T:Nat->Nat->Rat)(B:Nat->Nat):Prop where
 lt:∀i,i<m->B i<n
 unit:∀i,i<m->∀k,k<m->T i (B k)=if i=k then 1 else 0
 col:∀j,j<=n->∀r,r<m->A j r=sm m (λi=>T i j*A (B i) r)
 dne:det m (λi=>A (B i))≠0
theorem Inv.inj{m n:Nat}{A T:Nat->Nat->Rat}{B:Nat->Nat}(h:Inv m n A T B){i k:Nat}(hi:i<m)(O:k<m)(e:B i=B k):i=k:=by
 have I:=h.unit i hi k O;have K:=h.unit i hi i hi;rw[if_pos rfl]at K;rw[<-e,K]at I;by_cases M:i=k;exact M;rw[if_neg M]at I;grind
def pivT(T:Nat->Nat->Rat)(r c:Nat):Nat->Nat->Rat:=λi j=>if i=r then T r j / T r c else T i j-T i c*(T r j / T r c)
def pivB(B:Nat->Nat)(r c:Nat):Nat->Nat:=λi=>if i=r then c else B i
theorem yu{m r:Nat}(K:r<m)(f:Nat->Rat):sm m f=f r+sm m (λi=>if i=r then 0 else f i):=by
 have M:sm m f=sm m (λi=>(if i=r then f r else 0)+(if i=r then 0 else f i)):=by
  refine sm_congr (λi _=>?_);by_cases e:i=r;subst e;rw[if_pos rfl,if_pos rfl];grind;rw[if_neg e,if_neg e];grind
 rw[M,sm_add,sm_single (k:=r) K];rw[if_pos rfl];intro i _ I;rw[if_neg I]
theorem Inv.pivot{m n:Nat}{A T:Nat->Nat->Rat}{B:Nat->Nat}(h:Inv m n A T B){r c:Nat}(M:r<m)(hc:c<n)(hp:T r c≠0):
 Inv m n A (pivT T r c) (pivB B r c):=by
 refine⟨?_,?_,?_,?_⟩
 ·intro i hi;unfold pivB;split;exact hc;exact h.lt i hi
 ·intro i hi k U;unfold pivT pivB;by_cases V:k=r
  ·subst V;rw[if_pos rfl];by_cases I:i=k;subst I;rw[if_pos rfl,if_pos rfl];grind;rw[if_neg I,if_neg I];grind
  rw[if_neg V];have K:=h.unit r M k U;rw[if_neg Oo]at K;rw[K];by_cases I:i=r;subst I;rw[if_pos rfl,if_neg Oo];grind;rw[if_neg I,h.unit i hi k U];grind
 ·intro j hj s hs;have K:=h.col j hj s hs;have h2:=h.col c Oo s hs;rw[yu M]at K h2;rw[yu M];have O:sm m (λi=>if i=r then 0 else pivT T r c i j*A (pivB B r c i) s)=sm m (λi=>if i=r then 0 else T i j*A (B i) s)-(T r j / T r c)*sm m (λi=>if i=r then 0 else T i c*A (B i) s):=by
   have e2:(λi=>if i=r then 0 else pivT T r c i j*A (pivB B r c i) s)=λi=>(if i=r then 0 else T i j*A (B i) s)+(-(T r j / T r c))*(if i=r then 0 else T i c*A (B i) s):=by
    funext i;unfold pivT pivB;by_cases I:i=r;rw[if_pos I,if_pos I,if_pos I];grind;rw[if_neg I,if_neg I,if_neg I,if_neg I,if_neg I];grind
   rw[e2,sm_add,sm_mul];grind
  rw[O];have e3:pivT T r c r j=T r j / T r c:=if_pos rfl;have e4:pivB B r c r=c:=if_pos rfl;rw[e3,e4,K,h2];grind
 have O:det m (λi=>A (pivB B r c i))=det m (upd (λi=>A (B i)) r (A c)):=by
  refine je (λj _ i _=>?_);unfold upd pivB;split <;> rfl
 rw[O,U0 (λi=>A (B i)) r M (λi=>T i c) (A c) (λs hs=>h.col c Oo s hs)];have:=h.dne;grind
theorem Inv.entry{m n:Nat}{A T:Nat->Nat->Rat}{B:Nat->Nat}(h:Inv m n A T B){i j:Nat}(hi:i<m)(I:j<=n):
 det m (upd (λi=>A (B i)) i (A j))=T i j*det m (λi=>A (B i)):=
 U0 (λi=>A (B i)) i hi (λi=>T i j) (A j) (λs hs=>h.col j I s hs)
theorem Inv.small{m n:Nat}{A T:Nat->Nat->Rat}{B:Nat->Nat}(h:Inv m n A T B)(M:∀j,j<=n->∀r,r<m->Whole 1 (A j r)):
 ∃D:Int,D≠0/\D.natAbs<=fac m/\∀i,i<m->∀j,j<=n->Whole (fac m) (T i j*D):=by
 have hB:∀j,j<m->∀i,i<m->Whole 1 ((λi=>A (B i)) j i):=λj I i hi=>M _ (Nat.le_of_lt (h.lt j I)) i hi;obtain⟨D,O,K⟩:=Vc (λi=>A (B i)) hB;refine⟨D,?_,K,?_⟩;intro e;apply h.dne;rw[O,e];rfl;intro i hi j I;rw[<-O,<-h.entry hi I];refine Vc _ (λa U b hb=>?_);unfold upd;split;exact M j I b hb;exact hB a U b hb
def Sol(m n:Nat)(A:Nat->Nat->Rat)(x:Nat->Rat):Prop:=∀r,r<m->sm n (λj=>x j*A j r)=A n r
def Hom(m n:Nat)(A:Nat->Nat->Rat)(x:Nat->Rat):Prop:=∀r,r<m->sm n (λj=>x j*A j r)=0
theorem Inv.comb{m n:Nat}{A T:Nat->Nat->Rat}{B:Nat->Nat}(h:Inv m n A T B)(x:Nat->Rat)(r:Nat)(I:r<m):
 sm n (λj=>x j*A j r)=sm m (λi=>sm n (λj=>T i j*x j)*A (B i) r):=by
 have K:sm n (λj=>x j*A j r)=sm n (λj=>sm m (λi=>T i j*x j*A (B i) r)):=by
  refine sm_congr (λj O=>?_);rw[h.col j Oo r I,<-sm_mul];exact sm_congr (λi _=>Rr)
 rw[K,uy];refine sm_congr (λi _=>?_);have M:(λj=>T i j*x j*A (B i) r)=λj=>A (B i) r*(T i j*x j):=by funext j;grind
 rw[M,sm_mul];grind
theorem Inv.hom_rows{m n:Nat}{A T:Nat->Nat->Rat}{B:Nat->Nat}(h:Inv m n A T B){x:Nat->Rat}(K:Hom m n A x):
 ∀i,i<m->sm n (λj=>T i j*x j)=0:=
 Vb (λi=>A (B i)) h.dne (λi=>sm n (λj=>T i j*x j)) (λr I=>by rw[<-h.comb x r I];exact K r I)
theorem Inv.sol_rows{m n:Nat}{A T:Nat->Nat->Rat}{B:Nat->Nat}(h:Inv m n A T B){x:Nat->Rat}(M:Sol m n A x):
 ∀i,i<m->sm n (λj=>T i j*x j)=T i n:=by
 have key:=Vb (λi=>A (B i)) h.dne (λi=>sm n (λj=>T i j*x j)-T i n) (λr I=>by
  have K:=h.comb x r I;rw[M r I,h.col n (nR _) r I]at K;have O:(λk=>(sm n (λj=>T k j*x j)-T k n)*A (B k) r)=λk=>sm n (λj=>T k j*x j)*A (B k) r+(-1)*(T k n*A (B k) r):=by funext k;grind
  show sm m (λk=>(sm n (λj=>T k j*x j)-T k n)*A (B k) r)=0;rw[O,sm_add,sm_mul,<-K];grind)
 intro i hi;have:=key i hi;grind
def red(m:Nat)(cost:Nat->Rat)(T:Nat->Nat->Rat)(B:Nat->Nat):Nat->Rat:=λj=>cost j-sm m (λi=>cost (B i)*T i j)
theorem qAy{m n:Nat}(cost:Nat->Rat)(T:Nat->Nat->Rat)(B:Nat->Nat)(x:Nat->Rat)(t:Nat->Rat)(I:∀i,i<m->sm n (λj=>T i j*x j)=t i):
 sm n (λj=>red m cost T B j*x j)=sm n (λj=>cost j*x j)-sm m (λi=>cost (B i)*t i):=by
 have K:(λj=>red m cost T B j*x j)=λj=>cost j*x j+(-1)*sm m (λi=>cost (B i)*(T i j*x j)):=by
  funext j;unfold red;have:sm m (λi=>cost (B i)*(T i j*x j))=x j*sm m (λi=>cost (B i)*T i j):=by
   rw[<-sm_mul];exact sm_congr (λi _=>Rr)
  rw[this];grind
 rw[K,sm_add,sm_mul,uy];have M:sm m (λi=>sm n (λj=>cost (B i)*(T i j*x j)))=sm m (λi=>cost (B i)*t i):=by
  refine sm_congr (λi hi=>?_);rw[sm_mul,I i hi]
 rw[M];grind
theorem Inv.cost_hom{m n:Nat}{A T:Nat->Nat->Rat}{B:Nat->Nat}(h:Inv m n A T B)(cost:Nat->Rat){x:Nat->Rat}(I:Hom m n A x):
 sm n (λj=>cost j*x j)=sm n (λj=>red m cost T B j*x j):=by
 have e:sm m (λi=>cost (B i)*(λ_=>(0:Rat)) i)=0:=sm_zero (λi _=>Rr);rw[qAy cost T B x (λ_=>0) (h.hom_rows I),e];grind
theorem Inv.cost_sol{m n:Nat}{A T:Nat->Nat->Rat}{B:Nat->Nat}(h:Inv m n A T B)(cost:Nat->Rat){x:Nat->Rat}(I:Sol m n A x):
 sm n (λj=>cost j*x j)=sm n (λj=>red m cost T B j*x j)+sm m (λi=>cost (B i)*T i n):=by
 rw[qAy cost T B x (λi=>T i n) (h.sol_rows I)];grind
theorem Inv.red_basic{m n:Nat}{A T:Nat->Nat->Rat}{B:Nat->Nat}(h:Inv m n A T B)(cost:Nat->Rat){k:Nat}(I:k<m):red m cost T B (B k)=0:=by
 unfold red;rw[sm_single (k:=k) I];rw[h.unit k I k I,if_pos rfl];grind;intro i hi K;rw[h.unit i hi k I,if_neg K];grind
theorem red_pivot{m n:Nat}{A T:Nat->Nat->Rat}{B:Nat->Nat}(h:Inv m n A T B)(cost:Nat->Rat){r c:Nat}(K:r<m)(hp:T r c≠0)(j:Nat):
 red m cost (pivT T r c) (pivB B r c) j=red m cost T B j-red m cost T B c*(T r j / T r c):=by
 unfold red;rw[yu K,yu K (λi=>cost (B i)*T i j),yu K (λi=>cost (B i)*T i c)];have M:sm m (λi=>if i=r then 0 else cost (pivB B r c i)*pivT T r c i j)=sm m (λi=>if i=r then 0 else cost (B i)*T i j)-(T r j / T r c)*sm m (λi=>if i=r then 0 else cost (B i)*T i c):=by
  have O:(λi=>if i=r then 0 else cost (pivB B r c i)*pivT T r c i j)=λi=>(if i=r then 0 else cost (B i)*T i j)+(-(T r j / T r c))*(if i=r then 0 else cost (B i)*T i c):=by
   funext i;unfold pivT pivB;by_cases I:i=r;rw[if_pos I,if_pos I,if_pos I];grind;rw[if_neg I,if_neg I,if_neg I,if_neg I,if_neg I];grind
  rw[O,sm_add,sm_mul];grind
 rw[M];have U:pivT T r c r j=T r j / T r c:=if_pos rfl;have V:pivB B r c r=c:=if_pos rfl;rw[U,V];have:=h.dne;grind
def val(m:Nat)(t:Nat->Rat)(B:Nat->Nat)(j:Nat):Rat:=sm m (λi=>if B i=j then t i else 0)
theorem Inv.val_basic{m n:Nat}{A T:Nat->Nat->Rat}{B:Nat->Nat}(h:Inv m n A T B)(t:Nat->Rat){k:Nat}(K:k<m):val m t B (B k)=t k:=by
 unfold val;rw[sm_single (k:=k) K];rw[if_pos rfl];intro i hi I;rw[if_neg (λe=>I (h.inj hi K e))]
theorem val_not{m:Nat}{t:Nat->Rat}{B:Nat->Nat}{j:Nat}(I:∀i,i<m->B i≠j):val m t B j=0:=
 sm_zero (λi hi=>if_neg (I i hi))
theorem Xs{m n:Nat}(t:Nat->Rat)(B:Nat->Nat)(hB:∀i,i<m->B i<n)(f:Nat->Rat):
 sm n (λj=>val m t B j*f j)=sm m (λi=>t i*f (B i)):=by
 have K:sm n (λj=>val m t B j*f j)=sm n (λj=>sm m (λi=>if B i=j then t i*f (B i) else 0)):=by
  refine sm_congr (λj _=>?_);unfold val;have:f j*sm m (λi=>if B i=j then t i else 0)=sm m (λi=>if B i=j then t i*f (B i) else 0):=by
   rw[<-sm_mul];refine sm_congr (λi _=>?_);by_cases e:B i=j;rw[if_pos e,if_pos e,e];grind;rw[if_neg e,if_neg e];grind
  rw[<-this];grind
 rw[K,uy];refine sm_congr (λi hi=>?_);rw[sm_single (k:=B i) (hB i hi)];rw[if_pos rfl];intro j _ I;rw[if_neg (λe=>I e.symm)]
theorem Inv.sol_basic{m n:Nat}{A T:Nat->Nat->Rat}{B:Nat->Nat}(h:Inv m n A T B):Sol m n A (val m (λi=>T i n) B):=by
 intro r I;rw[Xs (λi=>T i n) B h.lt (λj=>A j r),h.col n (nR _) r I]
def ray(m:Nat)(T:Nat->Nat->Rat)(B:Nat->Nat)(s:Nat)(j:Nat):Rat:=(if j=s then 1 else 0)+val m (λi=>- T i s) B j
theorem Inv.hom_ray{m n:Nat}{A T:Nat->Nat->Rat}{B:Nat->Nat}(h:Inv m n A T B){s:Nat}(hs:s<n):Hom m n A (ray m T B s):=by
 intro r K;have M:(λj=>ray m T B s j*A j r)=λj=>(if j=s then A s r else 0)+val m (λi=>- T i s) B j*A j r:=by
  funext j;unfold ray;by_cases e:j=s;subst e;rw[if_pos rfl,if_pos rfl];grind;rw[if_neg e,if_neg e];grind
 rw[M,sm_add,Xs _ B h.lt (λj=>A j r),sm_single (k:=s) hs];rw[if_pos rfl,h.col s Oo r K,<-sm_add];exact sm_zero (λi _=>Rr);intro j _ I;rw[if_neg I]
theorem Inv.ray_cost{m n:Nat}{A T:Nat->Nat->Rat}{B:Nat->Nat}(h:Inv m n A T B)(cost:Nat->Rat){s:Nat}(hs:s<n):
 sm n (λj=>cost j*ray m T B s j)=red m cost T B s:=by
 rw[h.cost_hom cost (h.hom_ray hs)];have K:(λj=>red m cost T B j*ray m T B s j)=λj=>(if j=s then red m cost T B s else 0)+val m (λi=>- T i s) B j*red m cost T B j:=by
  funext j;unfold ray;by_cases e:j=s;subst e;rw[if_pos rfl,if_pos rfl];grind;rw[if_neg e,if_neg e];grind
 rw[K,sm_add,Xs _ B h.lt,sm_single (k:=s) hs];rw[if_pos rfl,sm_zero (λi hi=>by rw[h.red_basic cost hi];grind)];grind;intro j _ I;rw[if_neg I]
end Go.Proofs.YtcnfapnfmnolbaaGreat.Cov
namespace Go.Proofs.YtcnfapnfmnolbaaGreat.Cov
structure Run(m n:Nat)(A:Nat->Nat->Rat)(cost:Nat->Rat)(bar:Nat->Bool)(N:Nat)(T:Nat->Nat->Nat->Rat)(B:Nat->Nat->Nat)(r c:Nat->Nat):Prop where
 inv:∀k,k<=N->Inv m n A (T k) (B k)
 feas:∀k,k<=N->∀i,i<m->0<=T k i n
 rlt:∀k,k<N->r k<m
 clt:∀k,k<N->c k<n
 unbar:∀k,k<N->bar (c k)=false
 neg:∀k,k<N->red m cost (T k) (B k) (c k)<0
 least:∀k,k<N->∀j,j<c k->bar j=false->0<=red m cost (T k) (B k) j
 pos:∀k,k<N->0<T k (r k) (c k)
 tie:∀k,k<N->∀i,i<m->0<T k i (c k)->T k i n / T k i (c k)=T k (r k) n / T k (r k) (c k)->B k (r k)<=B k i
 nextT:∀k,k<N->T (k+1)=pivT (T k) (r k) (c k)
 nextB:∀k,k<N->B (k+1)=pivB (B k) (r k) (c k)
def InB(m:Nat)(B:Nat->Nat)(j:Nat):Prop:=∃i,i<m/\B i=j
def obj(m n:Nat)(cost:Nat->Rat)(T:Nat->Nat->Rat)(B:Nat->Nat):Rat:=sm m (λi=>cost (B i)*T i n)
theorem qCW{m n:Nat}{A T:Nat->Nat->Rat}{B:Nat->Nat}(h:Inv m n A T B)(cost:Nat->Rat){r c:Nat}(K:r<m)(M:T r c≠0):
 obj m n cost (pivT T r c) (pivB B r c)=obj m n cost T B+red m cost T B c*(T r n / T r c):=by
 have O:=red_pivot h cost K M n;have e:∀(I:Nat->Nat->Rat) (B':Nat->Nat),red m cost I B' n=cost n-obj m n cost I B':=λ_ _=>rfl;rw[e,e]at O;grind
theorem Yj{m n:Nat}{A T:Nat->Nat->Rat}{B:Nat->Nat}(h:Inv m n A T B)(cost:Nat->Rat):
 obj m n cost T B=sm n (λj=>val m (λi=>T i n) B j*cost j):=by
 rw[Xs _ B h.lt];exact sm_congr (λi _=>Rr)
theorem kT{a b:Rat}(I:0<=a)(hb:0<b):0<=a / b:=by
 rw[Rat.div_def];exact Rat.mul_nonneg I (Rat.le_of_lt (Rat.inv_pos.2 hb))
theorem uc{a b:Rat}(I:a<=0)(hb:0<=b):a*b<=0:=by
 have:=Rat.mul_nonneg (show 0<=-a by grind) hb;grind
theorem um{a b:Rat}(I:a<=0)(hb:b<=0):0<=a*b:=by
 have:=Rat.mul_nonneg (show 0<=-a by grind) (show 0<=-b by grind);grind
section
variable {m n:Nat} {A:Nat->Nat->Rat} {cost:Nat->Rat} {bar:Nat->Bool} {N:Nat} {T:Nat->Nat->Nat->Rat} {B:Nat->Nat->Nat} {r c:Nat->Nat}
theorem Run.obj_step(h:Run m n A cost bar N T B r c){k:Nat}(I:k<N):
 obj m n cost (T (k+1)) (B (k+1))=obj m n cost (T k) (B k)+red m cost (T k) (B k) (c k)*(T k (r k) n / T k (r k) (c k)):=by
 rw[h.nextT k I,h.nextB k I];have:=h.pos k I;exact qCW (h.inv k Oo) cost (h.rlt k I) Rr
theorem Run.ratio_nonneg(h:Run m n A cost bar N T B r c){k:Nat}(I:k<N):0<=T k (r k) n / T k (r k) (c k):=
 kT (h.feas k Oo _ (h.rlt k I)) (h.pos k I)
theorem Run.obj_le(h:Run m n A cost bar N T B r c)(a:Nat):∀d,a+d<=N->obj m n cost (T (a+d)) (B (a+d))<=obj m n cost (T a) (B a)
 |0,_=>by rw[Nat.add_zero];grind
 |d+1,hd=>by
  have K:=Run.obj_le h a d Oo;have I:=h.obj_step (k:=a+d) Oo;have M:=uc (Rat.le_of_lt (h.neg (a+d) Oo)) (h.ratio_nonneg (k:=a+d) Oo);rw[show a+(d+1)=a+d+1 by omega,I];grind
theorem qDd{M O:Nat->Nat->Rat}{I K:Nat->Nat}(U:Inv m n A M I)(h2:Inv m n A O K)(hs:∀j,InB m K j->InB m I j):
 ∀j,j<n->val m (λi=>M i n) I j=val m (λi=>O i n) K j:=by
 have hd:Hom m n A (λj=>val m (λi=>M i n) I j+(-1)*val m (λi=>O i n) K j):=by
  intro q hq;have e:(λj=>(val m (λi=>M i n) I j+(-1)*val m (λi=>O i n) K j)*A j q)=λj=>val m (λi=>M i n) I j*A j q+(-1)*(val m (λi=>O i n) K j*A j q):=by funext j;grind
  rw[e,sm_add,sm_mul,U.sol_basic q hq,h2.sol_basic q hq];grind
 have hr:=U.hom_rows hd;have hz:∀j,¬InB m I j->val m (λi=>M i n) I j=0/\val m (λi=>O i n) K j=0:=by
  intro j hj;exact⟨val_not (λi hi e=>hj ⟨i,hi,e⟩),val_not (λi hi e=>hj (hs j ⟨i,hi,e⟩))⟩
 intro j hj;by_cases hb:InB m I j
 ·obtain⟨i,hi,rfl⟩:=hb;have h3:=hr i hi;rw[sm_single (k:=I i) (U.lt i hi)]at h3;rw[U.unit i hi i hi,if_pos rfl]at h3;grind;intro j' a5 a3;by_cases V:InB m I j';obtain⟨i',a4,rfl⟩:=V;rw[U.unit i hi i' a4,if_neg (λe=>a3 (by rw[e]))];grind;obtain⟨z1,z2⟩:=hz j' V;rw[z1,z2];grind
 obtain⟨z1,z2⟩:=hz j hb;rw[z1,z2]
theorem Run.leave(h:Run m n A cost bar N T B r c)(j a:Nat):∀d,a+d<=N->InB m (B a) j->¬InB m (B (a+d)) j->∃k,a<=k/\k<a+d/\B k (r k)=j
 |0,_,h1,h2=>absurd h1 h2
 |d+1,hd,h1,h2=>by
  by_cases I:InB m (B (a+d)) j
  ·refine⟨a+d,Oo,Oo,?_⟩;obtain⟨i,hi,K⟩:=I;by_cases e:i=r (a+d);rw[<-e];exact K;exfalso;apply h2;refine⟨i,hi,?_⟩;rw[show a+(d+1)=a+d+1 by omega,h.nextB (a+d) Oo];unfold pivB;rw[if_neg e];exact K
  obtain⟨k,M,U,O⟩:=Run.leave h j a d Oo h1 I;exact⟨k,M,Oo,O⟩
theorem Run.enter(h:Run m n A cost bar N T B r c)(j a:Nat):∀d,a+d<=N->¬InB m (B a) j->InB m (B (a+d)) j->∃k,a<=k/\k<a+d/\c k=j
 |0,_,h1,h2=>absurd h2 h1
 |d+1,hd,h1,h2=>by
  by_cases K:InB m (B (a+d)) j;obtain⟨k,M,U,O⟩:=Run.enter h j a d Oo h1 K;exact⟨k,M,Oo,O⟩;refine⟨a+d,Oo,Oo,?_⟩;obtain⟨i,hi,I⟩:=h2;rw[show a+(d+1)=a+d+1 by omega,h.nextB (a+d) Oo]at I;unfold pivB at I;by_cases e:i=r (a+d);rw[if_pos e]at I;exact I;rw[if_neg e]at I;exact absurd ⟨i,hi,I⟩ K
theorem Uv(c:Nat->Nat)(p:Nat):∀d,∃l,p<=l/\l<p+d+1/\∀k,p<=k->k<p+d+1->c k<=c l
 |0=>⟨p,Oo,Oo,λk M U=>by rw[show k=p by omega];exact nR _⟩
 |d+1=>by
  obtain⟨l,M,U,O⟩:=Uv c p d;by_cases e:c l<=c (p+d+1)
  ·refine⟨p+d+1,Oo,Oo,λk I V=>?_⟩;by_cases K:k=p+d+1;rw[K];exact nR _;exact bM (O k I Oo) e
  refine⟨l,M,Oo,λk I V=>?_⟩;by_cases K:k=p+d+1;rw[K];omega;exact O k I Oo
theorem Run.no_cycle(h:Run m n A cost bar N T B r c)(p d:Nat)(hq:p+d+1<=N)(same:∀j,InB m (B p) j↔InB m (B (p+d+1)) j):False:=by
 have d3:obj m n cost (T (p+d+1)) (B (p+d+1))=obj m n cost (T p) (B p):=by
  rw[Yj (h.inv _ hq) cost,Yj (h.inv p Oo) cost];refine sm_congr (λj hj=>?_);rw[qDd (h.inv p Oo) (h.inv _ hq) (λj hj=>(same j).2 hj) j hj]
 have hzero:∀k,p<=k->k<p+d+1->T k (r k) n=0:=by
  intro k K h2;have e1:=h.obj_le p (k-p) Oo;have e2:=h.obj_le (k+1) (p+d+1-(k+1)) Oo;rw[show p+(k-p)=k by omega]at e1;rw[show k+1+(p+d+1-(k+1))=p+d+1 by omega]at e2;have e3:=h.obj_step (k:=k) Oo;have e4:=h.ratio_nonneg (k:=k) Oo;have e5:=h.neg k Oo;have e6:=h.pos k Oo;have e7:red m cost (T k) (B k) (c k)*(T k (r k) n / T k (r k) (c k))=0:=by
   have:=uc (Rat.le_of_lt e5) e4;grind
  have e8:T k (r k) n / T k (r k) (c k)=0:=by
   rcases Rat.mul_eq_zero.1 e7 with e|e;grind;exact e
  grind
 have b0:∀e,e<=d+1->∀j,val m (λi=>T (p+e) i n) (B (p+e)) j=val m (λi=>T p i n) (B p) j:=by
  intro e;induction e with
  |zero=>intro _ j;rfl
  |succ e ih=>
   intro he j;rw[<-ih Oo j];have hz:=hzero (p+e) Oo Oo;refine sm_congr (λi hi=>?_);rw[show p+(e+1)=p+e+1 by omega,h.nextT (p+e) Oo,h.nextB (p+e) Oo];unfold pivT pivB;dsimp only;rw[hz];by_cases ei:i=r (p+e);rw[if_pos ei,if_pos ei,ei,hz];have:(0:Rat) / T (p+e) (r (p+e)) (c (p+e))=0:=Rr;rw[this];split <;> split <;> rfl;rw[if_neg ei,if_neg ei];split;grind;rfl
 have U:∀k,p<=k->k<=p+d+1->∀j,val m (λi=>T k i n) (B k) j=val m (λi=>T p i n) (B p) j:=by
  intro k K h2 j;have:=b0 (k-p) Oo j;rwa[show p+(k-p)=k by omega]at this
 obtain⟨l,c8,d5,a3⟩:=Uv c p d;have I:∀k,k<N->¬InB m (B k) (c k):=by
  intro k hk ⟨i,hi,e⟩;have K:=h.neg k hk;rw[<-e,(h.inv k Oo).red_basic cost hi]at K;grind
 have c9:InB m (B (l+1)) (c l):=by
  refine⟨r l,h.rlt l Oo,?_⟩;rw[h.nextB l Oo];exact if_pos rfl
 obtain⟨k,a6,b1,a7⟩:∃k,p<=k/\k<p+d+1/\B k (r k)=c l:=by
  by_cases hc:InB m (B (p+d+1)) (c l)
  ·have K:=(same (c l)).2 hc;have h2:=I l Oo;rw[show l=p+(l-p)by omega]at h2;have a8:¬InB m (B (p+(l-p))) (c l):=by rw[show p+(l-p)=l by omega];exact I l Oo
   obtain⟨k,a,b,e⟩:=h.leave (c l) p (l-p) Oo K a8;exact⟨k,a,Oo,e⟩
  have a8:¬InB m (B (l+1+(p+d+1-(l+1)))) (c l):=by rw[show l+1+(p+d+1-(l+1))=p+d+1 by omega];exact hc
  obtain⟨k,a,b,e⟩:=h.leave (c l) (l+1) (p+d+1-(l+1)) Oo c9 a8;exact⟨k,Oo,Oo,e⟩
 have V:=h.inv k Oo;have b7:=h.inv l Oo;have d0:c k<c l:=by
  have K:=a3 k a6 b1;by_cases e:c k=c l;exfalso;apply I k Oo;exact⟨r k,h.rlt k Oo,by rw[a7,e]⟩;omega
 have d4:sm n (λj=>red m cost (T l) (B l) j*ray m (T k) (B k) (c k) j)<0:=by
  rw[<-b7.cost_hom cost (V.hom_ray (h.clt k Oo)),V.ray_cost cost (h.clt k Oo)];exact h.neg k Oo
 have hex:∃j,j<n/\red m cost (T l) (B l) j*ray m (T k) (B k) (c k) j<0:=by
  by_cases a4:∀j,j<n->0<=red m cost (T l) (B l) j*ray m (T k) (B k) (c k) j;have:=zn a4;grind;have ⟨j,hj⟩:=Classical.not_forall.1 a4;have ⟨K,h2⟩:=Classical.not_imp.1 hj;exact⟨j,K,Rr⟩
 obtain⟨j,hj,M⟩:=hex;by_cases hb:InB m (B k) j
 ·obtain⟨i,hi,rfl⟩:=hb;have d1:B k i≠c k:=λe=>I k Oo ⟨i,hi,e⟩;have O:ray m (T k) (B k) (c k) (B k i)=- T k i (c k):=by
   unfold ray;rw[if_neg d1,V.val_basic (λi=>- T k i (c k)) hi];grind
  rw[O]at M;have b8:¬InB m (B l) (B k i):=by
   intro ⟨i',a9,e⟩;rw[<-e,b7.red_basic cost a9]at M;grind
  obtain⟨k',b9,c7,a5⟩:∃k',p<=k'/\k'<p+d+1/\c k'=B k i:=by
   by_cases hp:InB m (B p) (B k i);have K:=(same _).1 hp;rw[show p+d+1=l+(p+d+1-l)by omega]at K;obtain⟨k',a,b,e⟩:=h.enter (B k i) l (p+d+1-l) Oo b8 K;exact⟨k',Oo,Oo,e⟩;have K:InB m (B (p+(k-p))) (B k i):=by rw[show p+(k-p)=k by omega];exact⟨i,hi,rfl⟩
   obtain⟨k',a,b,e⟩:=h.enter (B k i) p (k-p) Oo hp K;exact⟨k',Oo,Oo,e⟩
  have hle:=a3 k' b9 c7;rw[a5]at hle;by_cases het:B k i=c l;have d2:i=r k:=V.inj hi (h.rlt k Oo) (by rw[a7,het]);have K:=h.pos k Oo;have h2:=h.neg l Oo;rw[het,d2]at M;have:=um (Rat.le_of_lt h2) (show-T k (r k) (c k)<=0 by grind);grind;have K:=h.least l Oo (B k i) Oo (by rw[<-a5];exact h.unbar k' Oo);have h2:0<T k i (c k):=by
   by_cases e:0<T k i (c k);exact e;have:=Rat.mul_nonneg K (show 0<=- T k i (c k)by grind);grind
  have h3:T k i n=0:=by
   have e1:=U k a6 Oo (B k i);have e2:=U l c8 Oo (B k i);rw[V.val_basic (λi=>T k i n) hi]at e1;rw[val_not (λi' a9 e=>b8 ⟨i',a9,e⟩)]at e2;grind
  have h4:=hzero k a6 b1;have h5:=h.tie k Oo i hi h2 (by rw[h3,h4];grind);rw[a7]at h5;omega
 by_cases e:j=c k
 ·have K:=h.least l Oo (c k) d0 (h.unbar k Oo);have O:ray m (T k) (B k) (c k) j=1:=by
   unfold ray;rw[if_pos e,val_not (λi hi e'=>hb ⟨i,hi,e'⟩)];grind
  rw[O,e]at M;grind
 have O:ray m (T k) (B k) (c k) j=0:=by
  unfold ray;rw[if_neg e,val_not (λi hi e'=>hb ⟨i,hi,e'⟩)];grind
 rw[O]at M;grind
end
theorem Uw:∀(N:Nat) (f:Nat->Nat),(∀k,k<=N->f k<N)->∃p q,p<q/\q<=N/\f p=f q
 |0,f,h=>absurd (h 0 Oo) Oo
 |N+1,f,h=>by
  by_cases hex:∃p,p<=N/\f p=f (N+1);obtain⟨p,K,M⟩:=hex;exact⟨p,N+1,Oo,Oo,M⟩;have I:∀p,p<=N->f p≠f (N+1):=λp U e=>hex ⟨p,U,e⟩;obtain⟨p,q,K,M,O⟩:=Uw N (λk=>if f k=N then f (N+1) else f k) (by
   intro k V;have K:=h k Oo;have M:=h (N+1) Oo;have O:=I k V;show(if f k=N then f (N+1) else f k)<N;split <;> omega)
  refine⟨p,q,K,Oo,?_⟩;have h4:=I p Oo;have h5:=I q Oo;split at O <;> split at O <;> omega
def mask(s:Nat->Bool):Nat->Nat
 |0=>0
 |n+1=>mask s n+(if s n then 2 ^ n else 0)
theorem ZN(s:Nat->Bool):∀n,mask s n<2 ^ n
 |0=>by show 0<1;omega
 |n+1=>by
  have:=ZN s n;show mask s n+(if s n then 2 ^ n else 0)<2 ^ (n+1);rw[Nat.pow_succ];split <;> omega
theorem Ux(s t:Nat->Bool):∀n,mask s n=mask t n->∀j,j<n->s j=t j
 |0,_,j,hj=>absurd hj Oo
 |n+1,h,j,hj=>by
  have M:=ZN s n;have O:=ZN t n;have I:mask s n+(if s n then 2 ^ n else 0)=mask t n+(if t n then 2 ^ n else 0):=h;have K:s n=t n:=by
   cases hs:s n <;> cases ht:t n <;> simp[hs,ht]at I ⊢ <;> omega
  by_cases e:j=n;rw[e];exact K;rw[K]at I;exact Ux s t n Oo j Oo
theorem Run.bounded{m n:Nat}{A:Nat->Nat->Rat}{cost:Nat->Rat}{bar:Nat->Bool}{T:Nat->Nat->Nat->Rat}{B:Nat->Nat->Nat}{r c:Nat->Nat}(h:Run m n A cost bar (2 ^ n) T B r c):False:=by
 have dec:∀k j,Decidable (InB m (B k) j):=λk j=>Classical.propDecidable _;obtain⟨p,q,O,U,M⟩:=Uw (2 ^ n) (λk=>mask (λj=>@decide (InB m (B k) j) (dec k j)) n) (λk _=>ZN _ n);have key:=Ux _ _ n M;refine h.no_cycle p (q-p-1) Oo (λj=>?_);rw[show p+(q-p-1)+1=q by omega];have I:∀k,k<=2 ^ n->InB m (B k) j->j<n:=by
  intro k hk ⟨i,hi,e⟩;rw[<-e];exact(h.inv k hk).lt i hi
 constructor
 ·intro K;have:=key j (I p Oo K);have e:@decide (InB m (B p) j) (dec p j)=true:=by simpa using K
  rw[e]at this;simpa using this.symm
 intro K;have:=key j (I q Oo K);have e:@decide (InB m (B q) j) (dec q j)=true:=by simpa using K
 rw[e]at this;simpa using this
end Go.Proofs.YtcnfapnfmnolbaaGreat.Cov
