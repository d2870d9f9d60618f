import Derived.Deep.AppendLies
import Derived.Deep.Draws
import Derived.Deep.LoopGhost
import Derived.Deep.RegionHeld3
import Derived.Deep.RegionLaw
import Derived.Lib.Walk
import Derived.Test.YtkaipapdlnojiaaGreatWq13
set_option maxHeartbeats 40000000
set_option maxRecDepth 1000000
namespace Go.Proofs.YtkaipapdlnojiaaGreat
open Go.RowKit
variable {bel:Bool}{u:Int}{l:List Int}{xs:List Value}{B b c n o pB q s:Nat}{e:TypeId}{v vr:Value}{W W' w w':World}
def zd(vs:List Int)(rows:List (List Int))(ws:List Int):Bool:=qL vs&&decide (rows.length<=10000)&&xk rows vs.length&&decide (ws.length=rows.length)
structure IT(w:World)(v0 v1 v2:Value)(vs:List Int)(rows:List (List Int))(ws:List Int):Prop where
 vs:IS w v0 vs
 rows:ISS w v1 rows
 ws:IS w v2 ws
theorem IT.below{v0 v1 v2:Value}{vs ws:List Int}{rows:List (List Int)}(h:IT w v0 v1 v2 vs rows ws)(hb:Bl w w'):IT w' v0 v1 v2 vs rows ws:=
 ⟨h.vs.below hb,h.rows.below hb,h.ws.below hb⟩
theorem QV(vs:List Int)(rows:List (List Int))(ws:List Int):
 (qL vs=false/\zd vs rows ws=false)∨(qL vs=true/\10000 < rows.length/\zd vs rows ws=false)∨(qL vs=true/\rows.length<=10000/\xk rows vs.length=false/\zd vs rows ws=false)∨
 (qL vs=true/\rows.length<=10000/\xk rows vs.length=true/\zd vs rows ws=decide (ws.length=rows.length)):=by
 unfold zd;cases h1:qL vs
 ·left;simp
 ·right;by_cases K:10000 < rows.length
  ·left;simp;omega
  ·right;have I:decide (rows.length<=10000)=true:=by simp;omega
   cases h4:xk rows vs.length
   ·left;simp;omega
   ·right;simp[I];omega
theorem YF(a b:Nat):decide ((a:Int)=(b:Int))=decide (a=b):=by
 by_cases h:a=b
 ·simp[h]
 ·rw[decide_eq_false h,decide_eq_false Oo]
theorem Ve(w:World)(v0 v1 v2:Value)(vs:List Int)(rows:List (List Int))(ws:List Int)(h:IT w v0 v1 v2 vs rows ws)(hv:vs.length<=1099511627776)(hr:zS rows):
 Cl 59 #[.agg #[v0,v1,v2]] w λe w'=>e=.returned (.bool (zd vs rows ws))/\Bl w w':=by
 have M:Hid (Bl w (w.alloc (.cells #[v0,v1,v2] 34))):=hid ((bM _ _).alloc (bK _) _);have K:=hid (xj (w.alloc (.cells #[v0,v1,v2] 34)) v0 vs (h.vs.below M.out) hv);have O:=hid (ki (w.alloc (.cells #[v0,v1,v2] 34)) v1 rows vs.length (h.rows.below M.out) hr);have a3:=hr.1;obtain⟨a0,k0,rfl,-⟩:=h.vs;obtain⟨a1,k1,rfl,-⟩:=h.rows;obtain⟨a2,k2,rfl,-⟩:=h.ws;have U:=QV vs rows ws;clear h hr;generalize zd vs rows ws=res at *;rcases U with ⟨c0,c1⟩|⟨c0,c1,c2⟩|⟨c0,c1,c2,c3⟩|⟨c0,c1,c2,c3⟩
 ·rw[c0]at K;clear O;subst c1;generalize vs.length=n0 at *;generalize rows.length=n1 at *;go_enter Tryz.func59,Tryz.ntmps59
  go_wp2_with (first|(go_at_call 24;refine K.out.mono ?_;rintro e w' ⟨rfl,I⟩;subst w'))
  go_ret;exact⟨rfl,M.out⟩
 ·rw[c0]at K;clear O;subst c2;generalize vs.length=n0 at *;generalize rows.length=n1 at *;have V:¬((n1:Int)<=10000):=Oo;go_enter Tryz.func59,Tryz.ntmps59
  go_wp2_with (first|(go_at_call 24;refine K.out.mono ?_;rintro e w' ⟨rfl,I⟩;subst w'))
  go_ret;exact⟨rfl,M.out⟩
 ·rw[c0]at K;rw[c2]at O;subst c3;generalize vs.length=n0 at *;generalize rows.length=n1 at *;have V:(n1:Int)<=10000:=Oo;go_enter Tryz.func59,Tryz.ntmps59
  go_wp2_with (first|(go_at_call 24;refine K.out.mono ?_;rintro e w' ⟨rfl,I⟩;subst w')|(go_at_call 100;refine O.out.mono ?_;rintro e w' ⟨rfl,I⟩;subst w'))
  go_ret;exact⟨rfl,M.out⟩
 ·rw[c0]at K;rw[c2]at O;rw[<-YF]at c3;have HE:=hid c3;clear c3;generalize vs.length=n0 at *;generalize rows.length=n1 at *;generalize ws.length=n2 at *;have V:(n1:Int)<=10000:=Oo;go_enter Tryz.func59,Tryz.ntmps59
  go_wp2_with (first|(go_at_call 24;refine K.out.mono ?_;rintro e w' ⟨rfl,I⟩;subst w')|(go_at_call 100;refine O.out.mono ?_;rintro e w' ⟨rfl,I⟩;subst w'))
  go_ret;exact⟨qI (by rw[HE.out];rfl),M.out⟩
theorem YG(w:World)(v0 v1 v2:Value)(vs:List Int)(rows:List (List Int))(ws:List Int)(h:IT w v0 v1 v2 vs rows ws)(hv:vs.length<=1099511627776)(hr:zS rows):
 Cl 20 #[.agg #[v0,v1,v2]] w λe w'=>e=.returned (.bool (zd vs rows ws))/\Bl w w':=by
 have M:Hid (Bl w (w.alloc (.cells #[v0,v1,v2] 34))):=hid ((bM _ _).alloc (bK _) _);have K:=hid (uC (w.alloc (.cells #[v0,v1,v2] 34)) v0 vs (h.vs.below M.out) hv);have O:=hid (kl (w.alloc (.cells #[v0,v1,v2] 34)) v1 rows vs.length (h.rows.below M.out) hr);have a3:=hr.1;obtain⟨a0,k0,rfl,-⟩:=h.vs;obtain⟨a1,k1,rfl,-⟩:=h.rows;obtain⟨a2,k2,rfl,-⟩:=h.ws;have U:=QV vs rows ws;clear h hr;generalize zd vs rows ws=res at *;rcases U with ⟨c0,c1⟩|⟨c0,c1,c2⟩|⟨c0,c1,c2,c3⟩|⟨c0,c1,c2,c3⟩
 ·rw[c0]at K;clear O;subst c1;generalize vs.length=n0 at *;generalize rows.length=n1 at *;go_enter Tryz.func20,Tryz.ntmps20
  go_wp2_with (first|(go_at_call 15;refine K.out.mono ?_;rintro e w' ⟨rfl,I⟩;subst w'))
  go_ret;exact⟨rfl,M.out⟩
 ·rw[c0]at K;clear O;subst c2;generalize vs.length=n0 at *;generalize rows.length=n1 at *;have V:¬((n1:Int)<=10000):=Oo;go_enter Tryz.func20,Tryz.ntmps20
  go_wp2_with (first|(go_at_call 15;refine K.out.mono ?_;rintro e w' ⟨rfl,I⟩;subst w'))
  go_ret;exact⟨rfl,M.out⟩
 ·rw[c0]at K;rw[c2]at O;subst c3;generalize vs.length=n0 at *;generalize rows.length=n1 at *;have V:(n1:Int)<=10000:=Oo;go_enter Tryz.func20,Tryz.ntmps20
  go_wp2_with (first|(go_at_call 15;refine K.out.mono ?_;rintro e w' ⟨rfl,I⟩;subst w')|(go_at_call 48;refine O.out.mono ?_;rintro e w' ⟨rfl,q',I⟩;subst w'))
  go_ret;exact⟨rfl,below_drewN M.out _⟩
 ·rw[c0]at K;rw[c2]at O;rw[<-YF]at c3;have HE:=hid c3;clear c3;generalize vs.length=n0 at *;generalize rows.length=n1 at *;generalize ws.length=n2 at *;have V:(n1:Int)<=10000:=Oo;go_enter Tryz.func20,Tryz.ntmps20
  go_wp2_with (first|(go_at_call 15;refine K.out.mono ?_;rintro e w' ⟨rfl,I⟩;subst w')|(go_at_call 48;refine O.out.mono ?_;rintro e w' ⟨rfl,q',I⟩;subst w'))
  go_ret;exact⟨qI (by rw[HE.out];rfl),below_drewN M.out _⟩
open Meet
theorem qBF(x:Int)(w:World):Cl 148 #[.int .i64 x] w λe w'=>e=.returned (.bool false)/\w'=w:=by
 go_enter Tryz.func148,Tryz.ntmps148
 go_wp2;go_ret;exact⟨Ss,rfl⟩
theorem kQ(x:Int)(w:World):Cl 124 #[.int .i64 x] w λe w'=>e=.returned (.bool false)/\w'=w:=by
 go_enter Tryz.func124,Tryz.ntmps124
 go_wp2;go_ret;exact⟨Ss,rfl⟩
theorem XJ(x y:Int)(w:World):Cl 123 #[.int .i64 x,.int .i64 y] w λe w'=>e=.returned (.bool (decide (x < y)))/\w'=w:=by
 go_enter Tryz.func123,Tryz.ntmps123
 go_wp2_with (first|(go_at_call 148;refine(qBF _ _).mono ?_;rintro e w' ⟨rfl,rfl⟩))
 go_ret;exact⟨rfl,rfl⟩
def Up(l:List Int):Prop:=∀i j,i<=j->j < l.length->l.getD i 0<=l.getD j 0
theorem jJ(h:Asc l):Up l:=λi j K M=>by
 rcases Nat.lt_or_ge i j with I|I
 ·exact Int.le_of_lt (h i j I M)
 ·rw[show i=j by omega];exact Int.le_refl _
def bsQ(l:List Int)(x:Int):Nat:=l.countP λy=>decide (y < x)
def bsF(l:List Int)(x:Int):Bool:=decide (bsQ l x < l.length)&&decide (l.getD (bsQ l x) 0=x)
theorem qCQ{x:Int}(hq:q<=l.length)(M:∀j,j < q->l.getD j 0 < x)(O:∀j,q<=j->j < l.length->x<=l.getD j 0):bsQ l x=q:=by
 unfold bsQ;conv=>lhs;rw[<-tD q l]
 rw[List.countP_append]
 have a:(l.take q).countP (λy=>decide (y < x))=(l.take q).length:=List.countP_eq_length.2 λy I=>by
  obtain⟨j,K,e⟩:=gO I;rw[bZ]at K;have:=M j Oo;rw[gD,bC Oo]at this;rw[List.getElem_take]at e;simp only[Option.getD_some,e]at this;exact decide_eq_true this
 have b:(l.drop q).countP (λy=>decide (y < x))=0:=List.countP_eq_zero.2 λy I=>by
  obtain⟨j,K,e⟩:=gO I;rw[List.length_drop]at K;have:=O (q+j) Oo Oo;rw[gD,bC Oo]at this;rw[List.getElem_drop]at e;simp only[Option.getD_some,e]at this;simp;omega
 rw[a,b,bZ];omega
theorem qDg(hs:Up l)(x:Int):∃q,q<=l.length/\(∀j,j < q->l.getD j 0 < x)/\(∀j,q<=j->j < l.length->x<=l.getD j 0):=by
 have key:∀d k,k+d=l.length->(∀j,j < k->l.getD j 0 < x)->∃q,q<=l.length/\(∀j,j < q->l.getD j 0 < x)/\(∀j,q<=j->j < l.length->x<=l.getD j 0):=by
  intro d;induction d with
  |zero=>intro k M h;exact⟨k,Oo,h,λj I K=>Oo⟩
  |succ d ih=>
   intro k M h;by_cases O:l.getD k 0 < x
   ·exact ih (k+1) Oo (λj U=>by
     rcases Nat.lt_or_ge j k with I|I
     ·exact h j I
     ·rw[show j=k by omega];exact O)
   ·exact⟨k,Oo,h,λj I K=>by have:=hs k j I K;omega⟩
 exact key l.length 0 Oo (λj U=>Oo)
theorem ZT(hs:Up l)(x:Int):bsQ l x<=l.length/\(∀j,j < bsQ l x->l.getD j 0 < x)/\(∀j,bsQ l x<=j->j < l.length->x<=l.getD j 0):=by
 obtain⟨q,I,K,M⟩:=qDg hs x;rw[qCQ I K M];exact⟨I,K,M⟩
theorem X6{a b:Bool}{k:Nat}(h:k=q)(I:a=b):Ending.returned (.tuple #[.int .i64 k,.bool a])=.returned (.tuple #[.int .i64 q,.bool b]):=by rw[h,I]
theorem ke(w:World)(v:Value)(l:List Int)(x:Int)(h:IS w v l)(hl:l.length<=1099511627776)(hs:Up l):
 Cl 104 #[v,.int .i64 x] w λe w'=>e=.returned (.tuple #[.int .i64 (bsQ l x),.bool (bsF l x)])/\∃d,w'=w.drewN d:=by
 obtain⟨rq,U⟩:∃r,r=bsQ l x:=⟨_,rfl⟩;obtain⟨rf,V⟩:∃r,r=bsF l x:=⟨_,rfl⟩;rw[<-U,<-V];obtain⟨a,cap,rfl,hc⟩:=h;obtain⟨n,O⟩:∃n,n=l.length:=⟨_,rfl⟩;rw[<-O]at hc hl ⊢;have HC:=hid hc
 have HQ:Hid (∀q,q<=n->(∀t,t < q->l.getD t 0 < x)->(∀t,q<=t->t < n->x<=l.getD t 0)->q=rq/\(decide (q < n)&&decide (l.getD q 0=x))=rf):=hid (by
  intro q h1 h2 h3;have e:=qCQ (by rw[<-O];exact h1) h2 (by rw[<-O];exact h3);rw[U,V];unfold bsF;rw[e,<-O];exact⟨rfl,rfl⟩)
 have S:Hid (∀i j,i<=j->j < n->l.getD i 0<=l.getD j 0):=hid (by rw[O];exact hs);clear hc O hs U V;go_enter Tryz.func104,Tryz.ntmps104
 go_wp2;go_loopg [7,8] n (λg s7 s8 wr=>∃lo hi q:Nat,s7=.int .i64 lo/\s8=.int .i64 hi/\lo<=hi/\hi<=n/\hi - lo<=g/\wr=w.drewN q/\Hid ((∀t,t < lo->l.getD t 0 < x)/\(∀t,hi<=t->t < n->x<=l.getD t 0)))
 case atStart=>exact⟨0,n,0,rfl,rfl,nZ _,bK _,Oo,rfl,hid ⟨λt ht=>absurd ht (Nat.not_lt_zero _),λt h1 h2=>Oo⟩⟩
 case round=>
  obtain⟨lo,hi,q,rfl,rfl,a6,a4,hg,rfl,I⟩:=hrel;by_cases a7:lo < hi
  ·rcases HC.out with h0|⟨b,o,rfl,K⟩
   ·omega
   ·have cm:w.cell? ⟨b,o+(lo+hi) / 2,none⟩=some (.int .i64 (l.getD ((lo+hi) / 2) 0)):=K _ Oo;clear K;generalize hy:l.getD ((lo+hi) / 2) 0=y at cm;have Y:Hid (l.getD ((lo+hi) / 2) 0=y):=hid hy;clear hy;by_cases a2:y < x
    ·go_wp2_with (first|(go_at_call 123;refine(XJ _ _ _).mono ?_;rintro e w' ⟨rfl,rfl⟩))
     go_roundg (hi - ((lo+hi) / 2+1))
     case measure=>omega
     case rel=>
      refine⟨(lo+hi) / 2+1,hi,_,by rw[show((lo:Int)+(hi:Int)) / 2+1=(((lo+hi) / 2+1:Nat):Int)by omega],rfl,Oo,a4,bK _,rfl,hid ⟨λt ht=>?_,I.out.2⟩⟩;have:=S.out t ((lo+hi) / 2) Oo Oo;rw[Y.out]at this;omega
    ·go_wp2_with (first|(go_at_call 123;refine(XJ _ _ _).mono ?_;rintro e w' ⟨rfl,rfl⟩))
     go_roundg ((lo+hi) / 2 - lo)
     case measure=>omega
     case rel=>
      refine⟨lo,(lo+hi) / 2,_,rfl,by rw[show((lo:Int)+(hi:Int)) / 2=(((lo+hi) / 2:Nat):Int)by omega],Oo,Oo,bK _,rfl,hid ⟨I.out.1,λt ht a5=>?_⟩⟩;have:=S.out ((lo+hi) / 2) t ht a5;rw[Y.out]at this;omega
  ·have:hi=lo:=Oo;subst this;obtain⟨E1,E2⟩:=HQ.out hi a4 I.out.1 I.out.2;have a3:=hid E1;by_cases O:hi < n
   ·rcases HC.out with h0|⟨b,o,rfl,K⟩
    ·omega
    ·have cl:w.cell? ⟨b,o+hi,none⟩=some (.int .i64 (l.getD hi 0)):=K _ Oo;have M:Hid (decide (l.getD hi 0=x)=rf):=hid (by rw[<-E2];simp[O]);clear K E1 E2;generalize l.getD hi 0=y at *;have dn:decide (hi < n)=true:=by simp;omega
     by_cases a2:y=x
     ·go_wp2_with (first|(go_at_call 124;refine(kQ _ _).mono ?_;rintro e w' ⟨rfl,rfl⟩))
      go_ret2;exact⟨X6 a3.out (by rw[<-M.out];simp[a2]),_,rfl⟩
     ·go_wp2_with (first|(go_at_call 124;refine(kQ _ _).mono ?_;rintro e w' ⟨rfl,rfl⟩))
      go_ret2;exact⟨X6 a3.out (by rw[<-M.out];simp[a2]),_,rfl⟩
   ·have dn:decide (hi < n)=false:=by simp;omega
    have M:Hid (false=rf):=hid (by rw[<-E2,dn];rfl);clear E1 E2;go_wp2_with (first|(go_at_call 124;refine(kQ _ _).mono ?_;rintro e w' ⟨rfl,rfl⟩))
    go_ret2;exact⟨X6 a3.out M.out,_,rfl⟩
theorem Xf(h:Asc l)(p:Nat):Up (l.drop p):=λi j I K=>by
 rw[List.length_drop]at K;have:=jJ h (p+i) (p+j) Oo Oo;simpa only[List.getD_eq_getElem?_getD,List.getElem?_drop]using this
theorem Tryz.infoCur:(Tryz.prog.info? 182).map (λi=>(i.zero,i.size,i.bytes))=some (some (.agg #[.pointer none,.int .i64 0]),2,16):=by kernel_rfl
theorem Z5{U:TypeId}(h:w.ownsRow B e s v n xs)(ho:Og c w w')(ht:∃cur,w.heap[c]?=some (.cells cur U (0,0)))(K:e≠U):w'.ownsRow B e s v n xs:=by
 obtain⟨h1,M⟩:=h;refine⟨h1,?_⟩;rcases M with M|⟨g,cap,cur,hv,hg,I,hr⟩
 ·exact Or.inl M
 ·refine Or.inr ⟨g,cap,cur,hv,hg,?_,hr⟩
  rw[ho.block g (λe=>by
   obtain⟨V,O⟩:=ht;rw[e,O]at I;simp only[Option.some.injEq,Obj.cells.injEq]at I;exact K I.2.1.symm)]
  exact I
theorem own_ne{O:TypeId}(h:w.ownsRow B e s v n xs)(V:∃cur,w.heap[b]?=some (.cells cur O (0,0)))(I:e≠O):some b≠v.ownBlock:=by
 intro hb;obtain⟨h1,h2⟩:=h;rcases h2 with ⟨rfl,_⟩|⟨g,cap,cur,rfl,hg,K,hr⟩
 ·simp[Value.ownBlock]at hb
 ·simp only[Value.ownBlock,Option.some.injEq]at hb;subst hb;obtain⟨U,M⟩:=V;rw[M]at K;simp only[Option.some.injEq,Obj.cells.injEq]at K;exact I K.2.1.symm
theorem zm(h:∃cur,w.heap[b]?=some (.cells cur e (0,0))):b < w.heap.size:=by
 obtain⟨cur,h⟩:=h;rcases Nat.lt_or_ge b w.heap.size with I|I
 ·exact I
 ·rw[Array.getElem?_eq_none I]at h;cases h
theorem qH(w:World)(v:Value)(t:TypeId):∀j u,[v][j]?=some u->(w.alloc (.cells #[v] t)).cell? ((⟨w.heap.size,0,none⟩:Addr).add j)=some u:=by
 intro j u I;match j,I with
 |0,I=>simp at I;subst I;simp[Addr.add]
theorem Tryz.infoIS:(Tryz.prog.info? 25).map (λi=>(i.zero,i.size,i.bytes))=some (some (.slice none 0 0),1,24):=by kernel_rfl
structure PR(W:World)(B pB:Nat)(u:Int)(bel:Bool)(vr:Value)(vs:List Value)(rows:List (List Int)):Prop where
 typ:∃cur,W.heap[pB]?=some (.cells cur 68 (0,0))
 c0:W.cell? ⟨pB,0,none⟩=some (.int .i64 u)
 c1:W.cell? ⟨pB,1,none⟩=some vr
 c2:W.cell? ⟨pB,2,none⟩=some (.bool bel)
 f1:W.frozen? ⟨pB,1,none⟩=false
 own:W.ownsRow B 25 1 vr rows.length vs
 len:vs.length=rows.length
 each:∀i,i < rows.length->W.ownsRow B 3 1 (vs.getD i undef) (rows.getD i []).length ((rows.getD i []).map (Value.int .i64))
theorem PR.below{vs:List Value}{rows:List (List Int)}(h:PR W B pB u bel vr vs rows)(hb:Bl W W'):PR W' B pB u bel vr vs rows where
 typ:=by rw[hb.block pB (zm h.typ)];exact h.typ
 c0:=(hb.cell (p:=⟨pB,0,none⟩) (zm h.typ)).trans h.c0
 c1:=(hb.cell (p:=⟨pB,1,none⟩) (zm h.typ)).trans h.c1
 c2:=(hb.cell (p:=⟨pB,2,none⟩) (zm h.typ)).trans h.c2
 f1:=(hb.frozen (p:=⟨pB,1,none⟩) (zm h.typ)).trans h.f1
 own:=qB h.own hb
 len:=h.len
 each i hi:=qB (h.each i hi) hb
theorem qO{g:Nat}(h:w.ownsRow B e s v n xs)(I:v.ownBlock=some g):∃cur,w.heap[g]?=some (.cells cur e (0,0)):=by
 rcases h.2 with ⟨rfl,_⟩|⟨g',cap,cur,rfl,_,K,_⟩
 ·simp[Value.ownBlock]at I
 ·simp only[Value.ownBlock,Option.some.injEq]at I;subst I;exact⟨cur,K⟩
theorem PR.step{w3:World}{I:Value}{vs:List Value}{rows:List (List Int)}{o:Obj}(h:PR W B pB u bel vr vs rows)
 (hv:W.ownsRow B 3 1 v l.length (l.map (Value.int .i64))) (O:w3.ownsRow B 25 1 I (rows.length+1) (vs++[v])) (hg:(W.alloc o).grownBy w3 vr.ownBlock):
 PR (w3.setCell ⟨pB,1,none⟩ I) B pB u bel I (vs++[v]) (rows++[l]):=by
 have a3:(W.alloc o).heap.size=W.heap.size+1:=Ss;have hk:∀b,b < W.heap.size->some b≠vr.ownBlock->w3.heap[b]?=W.heap[b]?:=λb hb a2=>(hg.block b Oo a2).trans (Below.heap_alloc _ _ _ hb);have K:w3.heap[pB]?=W.heap[pB]?:=hk pB (zm h.typ) (own_ne h.own h.typ Dd);have M:∃cur,w3.heap[pB]?=some (.cells cur 68 (0,0)):=by rw[K];exact h.typ
 have U:Og pB w3 (w3.setCell ⟨pB,1,none⟩ I):=(Og.refl _ _).set _ _
 have hint:∀{x:Value} {k:Nat} {xs:List Value},W.ownsRow B 3 1 x k xs->(w3.setCell ⟨pB,1,none⟩ I).ownsRow B 3 1 x k xs:=λhx=>
  Z5 (qA hx (w':=w3) (λg V=>hk g ((hx.lt g V).2) (λe=>own_ne h.own (qO hx V) Dd e))) U M Dd
 refine⟨?_,?_,?_,?_,?_,?_,?_,λi hi=>?_⟩
 ·obtain⟨cur,hc⟩:=M;exact⟨_,bJ _ _ _ _ _ _ hc⟩
 ·exact(bD _ _ _ _ Ss).trans ((bF (w:=W) (a:=⟨pB,0,none⟩) K).trans h.c0)
 ·exact bI _ _ _ ((bF (w:=W) (a:=⟨pB,1,none⟩) K).trans h.c1)
 ·exact(bD _ _ _ _ Ss).trans ((bF (w:=W) (a:=⟨pB,2,none⟩) K).trans h.c2)
 ·rw[fS];exact(World.frozen?_of_block (w:=W) (a:=⟨pB,1,none⟩) K).trans h.f1
 ·rw[lA];exact Z5 O U M Dd
 ·rw[lA,lA,h.len];rfl
 ·rw[lA]at hi;simp only[List.length_cons,List.length_nil]at hi;by_cases e:i < rows.length
  ·have h1:(rows++[l]).getD i []=rows.getD i []:=by rw[gD,aL e,<-gD]
   have h2:(vs++[v]).getD i undef=vs.getD i undef:=by rw[gD,aL (by rw[h.len];exact e),<-gD]
   rw[h1,h2];exact hint (h.each i e)
  ·obtain rfl:i=rows.length:=Oo;have h1:(rows++[l]).getD rows.length []=l:=by rw[gD,bX (bK _)];simp
   have h2:(vs++[v]).getD rows.length undef=v:=by rw[gD,bX (by rw[h.len];exact bK _),h.len];simp
   rw[h1,h2];exact hint hv
def zM(bag:List Int)(es:List (List Int)):List (List Int):=bag.map λx=>plc (λi=>decide (x∈es.getD i [])) es.length
theorem Xx(bag:List Int)(es:List (List Int))(k:Nat)(h:k < bag.length):zM (bag.take (k+1)) es=zM (bag.take k) es++[plc (λi=>decide (bag.getD k 0∈es.getD i [])) es.length]:=by
 unfold zM;rw[tA,bC h,gD (l:=bag),bC h];simp only[Option.toList_some,List.map_append,List.map_cons,List.map_nil,Option.getD_some]
theorem Va(bag:List Int)(es:List (List Int)):(zM bag es).length=bag.length:=by simp[zM]
theorem PR.other{vs:List Value}{rows:List (List Int)}(h:PR W B pB u bel vr vs rows)(K:∃cur,W.heap[c]?=some (.cells cur 68 (0,0)))(M:c≠pB):PR (W.setCell ⟨c,o,none⟩ v) B pB u bel vr vs rows:=by
 have I:Og c W (W.setCell ⟨c,o,none⟩ v):=(Og.refl _ _).set _ _;have hp:(W.setCell ⟨c,o,none⟩ v).heap[pB]?=W.heap[pB]?:=I.block pB (Ne.symm M)
 exact⟨by rw[hp];exact h.typ,(bF (w:=W) (a:=⟨pB,0,none⟩) hp).trans h.c0,(bF (w:=W) (a:=⟨pB,1,none⟩) hp).trans h.c1,(bF (w:=W) (a:=⟨pB,2,none⟩) hp).trans h.c2,(World.frozen?_of_block (w:=W) (a:=⟨pB,1,none⟩) hp).trans h.f1,
  Z5 h.own I K Dd,h.len,λi hi=>Z5 (h.each i hi) I K Dd⟩
theorem qD(h:∃cur,W.heap[c]?=some (.cells cur e (0,0))):∃cur,(W.setCell ⟨c,o,none⟩ v).heap[c]?=some (.cells cur e (0,0)):=by
 obtain⟨cur,h⟩:=h;exact⟨_,bJ _ _ _ _ _ _ h⟩
theorem qF{B':Nat}(h:w.ownsRow B e s v n xs)(hB:B'<=B):w.ownsRow B' e s v n xs:=by
 obtain⟨K,I⟩:=h;refine⟨K,?_⟩;rcases I with I|⟨g,cap,cur,hv,M,hr⟩
 ·exact Or.inl I
 ·exact Or.inr ⟨g,cap,cur,hv,bQ hB M,hr⟩
theorem QP(w:World)(vb ve:Value)(bag:List Int)(es:List (List Int))(hb:IS w vb bag)(h:ISS w ve es)(e4:bag.length<=1000)(hl:zS es):
 Cl 29 #[vb,ve] w λe w'=>∃vr vs,e=.returned (.agg #[.int .i64 es.length,vr,.bool true])/\PR w' w.heap.size (w.heap.size+1) es.length true vr vs (zM bag es)/\Bl w w':=by
 obtain⟨i0,hi,e5,e6,e7⟩:=info_parts Tryz.infoIS;have HE:=hid h;have HL:=hid hl;obtain⟨a,cap,rfl,hc⟩:=hb;obtain⟨a',a5,rfl,-⟩:=h;obtain⟨n,hn⟩:∃n,n=bag.length:=⟨_,rfl⟩;have HN:=hid hn;have HC:=hid hc;rw[<-hn]at HC e4 ⊢;clear hc hn hl
 have b9:PR ((w.alloc (.cells #[.int .i64 0,.slice none 0 0,.bool false] 68)).alloc (.cells #[.int .i64 es.length,.slice none 0 0,.bool true] 68)) w.heap.size (w.heap.size+1) es.length true (.slice none 0 0) [] []:=
  ⟨⟨_,by have:=heap_alloc_new (w.alloc (.cells #[.int .i64 0,.slice none 0 0,.bool false] 68)) (.cells #[.int .i64 es.length,.slice none 0 0,.bool true] 68);simpa using this⟩,by simp[go_sem],by simp[go_sem],by simp[go_sem],by simp[go_sem],bG _ _ _ _,rfl,λi hi=>by simp at hi⟩
 have c9:=hid b9;clear b9;go_enter Tryz.func29,Tryz.ntmps29
 go_wp2;go_loopw [13] (λt wr=>∃k:Nat,k<=n/\t=.int .i64 k/\w.heap.size+1 < wr.heap.size/\Hid (Bl w wr/\wr.heap[w.heap.size]?=some (.cells #[.int .i64 0,.slice none 0 0,.bool false] 68 (0,0))/\∃vr vs,PR wr w.heap.size (w.heap.size+1) es.length true vr vs (zM (bag.take k) es))) (λt _=>n - (intOf t).toNat)
 case atStart=>exact⟨0,nZ _,rfl,Ss,hid ⟨((bM _ _).alloc (bK _) _).alloc Ss _,by rw[Below.heap_alloc _ _ _ Ss];exact heap_alloc_new _ _,_,_,c9.out⟩⟩
 case round=>
  clear c9;obtain⟨k,hk,rfl,d6,hH⟩:=hrel;obtain⟨V,O,vr,vs,M⟩:=hH.out;by_cases d7:k < n
  ·have i1:(k:Int) < (n:Int):=Oo;rcases HC.out with h0|⟨b,o,rfl,a2⟩
   ·omega
   ·have d0:=a2 k d7;have c1:wr.cell? ⟨b,o+k,none⟩=some (.int .i64 (bag.getD k 0)):=(V.cell (p:=⟨b,o+k,none⟩) (bL w _ d0)).trans d0;have e8:=hid (HE.out.below V);have e9:k < bag.length:=by rw[<-HN.out];exact d7
    have d8:=hid (Xx bag es k e9);have d9:(zM (bag.take k) es).length=k:=by rw[Va,bZ];omega
    have c5:=M.c1;have f5:=M.f1;have U:=M.own;rw[d9]at U;have a3:=hid M;have a8:=hid V;have f4:=hid O;have f8:=V.size;clear hH M V a2 d0 O;obtain⟨pl,a9⟩:∃q,q=plc (λi=>decide (bag.getD k 0∈es.getD i [])) es.length:=⟨_,rfl⟩;have K1:Hid (∀W,ISS W (.slice a' es.length a5) es->Cl 51 #[.int .i64 (bag.getD k 0),.slice a' es.length a5] W λe w'=>∃v,e=.returned v/\w'.ownsRow W.heap.size 3 1 v pl.length (pl.map (Value.int .i64))/\Bl W w'):=hid (λW hW=>by rw[a9];exact yi W _ _ es hW HL.out);rw[<-a9]at d8;clear a9;generalize bag.getD k 0=x at *;go_wp2_with fail
    go_region_law (first
     |(go_simp;go_at_call 51;refine(K1.out wr.drew e8.out).mono ?_;rintro e w2 ⟨v,rfl,hv,a6⟩;have I:Bl wr w2:=(bM _ _).drew.trans a6;obtain⟨av,cv,rfl,-⟩:=qK hv;have c6:w2.cell? ⟨w.heap.size+1,1,none⟩=some vr:=(I.cell (p:=⟨w.heap.size+1,1,none⟩) d6).trans c5;have a7:w.heap.size+1 < w2.heap.size:=bV d6 I.size;have c8:∀o',(w2.alloc o').cell? ⟨w.heap.size+1,1,none⟩=some vr:=λo'=>(World.cell?_alloc_past _ _ _ a7).trans c6)
     |(refine step_append_lies _ (by rfl) _ _ _ (by rfl) w.heap.size 25 i0 (.slice none 0 0) 1 24 Tryz.underlying24 hi e5 e6 e7 rfl Dd vr k vs (by rfl) ((qB U I).alloc _) ⟨w2.heap.size,0,none⟩ 1 1 [.slice av pl.length cv] (by rfl) (by rfl) (qH _ _ _) (λu hu=>by simp at hu;subst hu;rfl) Dd (by unfold maxLen;omega) Oo (by have:=I.size;simp at this ⊢;omega) (w2.heap.size+1) Ss ?_;intro g3 cp3 w3 a4 K g4 g5;have e0:w3.heap[w.heap.size+1]?=w2.heap[w.heap.size+1]?:=(K.block _ (by simp;omega) (own_ne (qB U I) (a3.out.below I).typ Dd)).trans (Below.heap_alloc _ _ _ a7);have c7:w3.cell? ⟨w.heap.size+1,1,none⟩=some vr:=(bF (w:=w2) (a:=⟨w.heap.size+1,1,none⟩) e0).trans c6;have f7:w3.frozen? ⟨w.heap.size+1,1,none⟩=false:=(World.frozen?_of_block (w:=w2) (a:=⟨w.heap.size+1,1,none⟩) e0).trans (a3.out.below I).f1))
    all_goals
     have b0:w2.heap[w.heap.size]?=some (.cells #[.int .i64 0,.slice none 0 0,.bool false] 68 (0,0)):=(I.block _ Oo).trans f4.out
     have e1:w3.heap[w.heap.size]?=some (.cells #[.int .i64 0,.slice none 0 0,.bool false] 68 (0,0)):=((K.block _ (by simp;omega) (own_ne (qB U I) ⟨_,b0⟩ Dd)).trans (Below.heap_alloc _ _ _ Oo)).trans b0
     have e2:Bl w w3:=qe Oo (qB U I) (bt a8.out I) K
     have e3:=(a3.out.below I).step (qF hv f8) (by rw[d9];exact a4) K
     have HF:Hid (Bl w (w3.setCell ⟨w.heap.size+1,1,none⟩ (.slice (some ⟨g3,0,none⟩) (k+1) cp3))/\(w3.setCell ⟨w.heap.size+1,1,none⟩ (.slice (some ⟨g3,0,none⟩) (k+1) cp3)).heap[w.heap.size]?=some (.cells #[.int .i64 0,.slice none 0 0,.bool false] 68 (0,0))/\∃vr vs,PR (w3.setCell ⟨w.heap.size+1,1,none⟩ (.slice (some ⟨g3,0,none⟩) (k+1) cp3)) w.heap.size (w.heap.size+1) es.length true vr vs (zM (bag.take (k+1)) es)):=
      hid ⟨e2.setCell (by show w.heap.size<=w.heap.size+1;omega) _,(bE _ _ _ _ (by show w.heap.size≠w.heap.size+1;omega)).trans e1,_,_,by rw[d8.out];exact e3⟩
     have f9:w.heap.size+1 < w3.heap.size:=by have:=K.size;simp at this;omega
     clear b0 e1 e2 e3 K a4 hv I a6
     go_wp2
     go_roundw
     case rel=>exact⟨k+1,Oo,Gg,by simpa[World.setCell]using f9,HF⟩
     case measure=>simp[intOf];omega
  ·obtain rfl:k=n:=Oo;have i1:¬((k:Int) < (k:Int)):=Oo;rw[HN.out,tL]at M;have c0:=M.c0;have c1:=M.c1;have c2:=M.c2;have z0:wr.cell? ⟨w.heap.size,0,none⟩=some (.int .i64 0):=by rw[cell_of_row _ _ _ _ _ _ O];rfl
   have z1:wr.cell? ⟨w.heap.size,1,none⟩=some (.slice none 0 0):=by rw[cell_of_row _ _ _ _ _ _ O];rfl
   have z2:wr.cell? ⟨w.heap.size,2,none⟩=some (.bool false):=by rw[cell_of_row _ _ _ _ _ _ O];rfl
   have y0:wr.frozen? ⟨w.heap.size,0,none⟩=false:=frozen_of_row _ _ _ _ _ O;have y1:wr.frozen? ⟨w.heap.size,1,none⟩=false:=frozen_of_row _ _ _ _ _ O;have y2:wr.frozen? ⟨w.heap.size,2,none⟩=false:=frozen_of_row _ _ _ _ _ O
   obtain⟨av,cv,g2⟩:∃av cv,vr=.slice av (zM bag es).length cv:=by
    rcases M.own.2 with ⟨rfl,h2⟩|⟨g,cp,cur,rfl,-⟩
    ·exact⟨none,0,by rw[h2]⟩
    ·exact⟨_,_,rfl⟩
   subst g2;have a3:=hid M;have a8:=hid V;have b7:=hid O;clear hH M V O;generalize (zM bag es).length=m at *;go_wp2
   refine bodyPost_ret (v:=.agg #[.int .i64 es.length,.slice av m cv,.bool true]) (by simp[results,Tryz.results29,go_sem,z0,z1,z2]) rfl
    ⟨_,rfl,⟨_,((a3.out.other ⟨_,b7.out⟩ Oo).other (qD ⟨_,b7.out⟩) Oo).other (qD (qD ⟨_,b7.out⟩)) Oo⟩,((a8.out.setCell (bK _) _).setCell (bK _) _).setCell (bK _) _⟩
def zV(bag:List Int)(es:List (List Int)):List (List Int):=es.map λe=>plc (λi=>decide (bag.getD i 0∈e)) bag.length
theorem Vb(bag:List Int)(es:List (List Int))(k:Nat)(h:k < es.length):zV bag (es.take (k+1))=zV bag (es.take k)++[plc (λi=>decide (bag.getD i 0∈es.getD k [])) bag.length]:=by
 unfold zV;rw[tA,bC h,gD (l:=es),bC h];simp only[Option.toList_some,List.map_append,List.map_cons,List.map_nil,Option.getD_some]
theorem U7(bag:List Int)(es:List (List Int)):(zV bag es).length=es.length:=by simp[zV]
theorem kO(w:World)(vb ve:Value)(bag:List Int)(es:List (List Int))(hb:IS w vb bag)(h:ISS w ve es)(g8:bag.length<=1000)(hl:zS es)(hle:es.length<=1000):
 Cl 30 #[vb,ve] w λe w'=>∃vr vs,e=.returned (.agg #[.int .i64 bag.length,vr,.bool false])/\PR w' w.heap.size (w.heap.size+1) bag.length false vr vs (zV bag es)/\Bl w w':=by
 obtain⟨i0,hi,e5,e6,e7⟩:=info_parts Tryz.infoIS;have HE:=hid hb;have HL:=hid hl.2;obtain⟨a,cap,rfl,hc⟩:=h;obtain⟨a',a5,rfl,-⟩:=hb;obtain⟨n,hn⟩:∃n,n=es.length:=⟨_,rfl⟩;have HN:=hid hn;have HC:=hid hc;rw[<-hn]at HC hle ⊢;clear hc hn hl
 have b9:PR ((w.alloc (.cells #[.int .i64 0,.slice none 0 0,.bool false] 68)).alloc (.cells #[.int .i64 bag.length,.slice none 0 0,.bool false] 68)) w.heap.size (w.heap.size+1) bag.length false (.slice none 0 0) [] []:=
  ⟨⟨_,by have:=heap_alloc_new (w.alloc (.cells #[.int .i64 0,.slice none 0 0,.bool false] 68)) (.cells #[.int .i64 bag.length,.slice none 0 0,.bool false] 68);simpa using this⟩,by simp[go_sem],by simp[go_sem],by simp[go_sem],by simp[go_sem],bG _ _ _ _,rfl,λi hi=>by simp at hi⟩
 have c9:=hid b9;clear b9;go_enter Tryz.func30,Tryz.ntmps30
 go_wp2;go_loopw [13] (λt wr=>∃k:Nat,k<=n/\t=.int .i64 k/\w.heap.size+1 < wr.heap.size/\Hid (Bl w wr/\wr.heap[w.heap.size]?=some (.cells #[.int .i64 0,.slice none 0 0,.bool false] 68 (0,0))/\∃vr vs,PR wr w.heap.size (w.heap.size+1) bag.length false vr vs (zV bag (es.take k)))) (λt _=>n - (intOf t).toNat)
 case atStart=>exact⟨0,nZ _,rfl,Ss,hid ⟨((bM _ _).alloc (bK _) _).alloc Ss _,by rw[Below.heap_alloc _ _ _ Ss];exact heap_alloc_new _ _,_,_,c9.out⟩⟩
 case round=>
  clear c9;obtain⟨k,hk,rfl,d6,hH⟩:=hrel;obtain⟨U,O,vr,vs,M⟩:=hH.out;by_cases d7:k < n
  ·have i1:(k:Int) < (n:Int):=Oo;rcases HC.out with h0|⟨b,o,rfl,a2⟩
   ·omega
   ·obtain⟨ue,d0,d8⟩:=a2 k d7;have c1:wr.cell? ⟨b,o+k,none⟩=some ue:=(U.cell (p:=⟨b,o+k,none⟩) (bL w _ d0)).trans d0;have e8:=hid (d8.below U);obtain⟨ae,ce,rfl,-⟩:=d8;have e9:=hid (HE.out.below U);have f4:k < es.length:=by rw[<-HN.out];exact d7
    have d9:=hid (Vb bag es k f4);have e0:(zV bag (es.take k)).length=k:=by rw[U7,bZ];omega
    have c5:=M.c1;have f5:=M.f1;have V:=M.own;rw[e0]at V;have a3:=hid M;have a8:=hid U;have f8:=hid O;have f9:=U.size;clear hH M U a2 d0 O;obtain⟨pl,a9⟩:∃q,q=plc (λi=>decide (bag.getD i 0∈es.getD k [])) bag.length:=⟨_,rfl⟩;have K1:Hid (∀W,IS W (.slice a' bag.length a5) bag->IS W (.slice ae (es.getD k []).length ce) (es.getD k [])->Cl 57 #[.slice a' bag.length a5,.slice ae (es.getD k []).length ce] W λe w'=>∃v,e=.returned v/\w'.ownsRow W.heap.size 3 1 v pl.length (pl.map (Value.int .i64))/\Bl W w'):=hid (λW hW g2=>by rw[a9];exact Xt W _ _ bag (es.getD k []) hW g2 Oo (HL.out k));rw[<-a9]at d9;clear a9;generalize es.getD k []=ed at *;generalize ed.length=edl at *;go_wp2_with fail
    go_region_law (first
     |(go_simp;go_at_call 57;refine(K1.out wr.drew e9.out e8.out).mono ?_;rintro e w2 ⟨v,rfl,hv,a6⟩;have I:Bl wr w2:=(bM _ _).drew.trans a6;obtain⟨av,cv,rfl,-⟩:=qK hv;have c6:w2.cell? ⟨w.heap.size+1,1,none⟩=some vr:=(I.cell (p:=⟨w.heap.size+1,1,none⟩) d6).trans c5;have a7:w.heap.size+1 < w2.heap.size:=bV d6 I.size;have c8:∀o',(w2.alloc o').cell? ⟨w.heap.size+1,1,none⟩=some vr:=λo'=>(World.cell?_alloc_past _ _ _ a7).trans c6)
     |(refine step_append_lies _ (by rfl) _ _ _ (by rfl) w.heap.size 25 i0 (.slice none 0 0) 1 24 Tryz.underlying24 hi e5 e6 e7 rfl Dd vr k vs (by rfl) ((qB V I).alloc _) ⟨w2.heap.size,0,none⟩ 1 1 [.slice av pl.length cv] (by rfl) (by rfl) (qH _ _ _) (λu hu=>by simp at hu;subst hu;rfl) Dd (by unfold maxLen;omega) Oo (by have:=I.size;simp at this ⊢;omega) (w2.heap.size+1) Ss ?_;intro g3 cp3 w3 a4 K g6 g7;have e1:w3.heap[w.heap.size+1]?=w2.heap[w.heap.size+1]?:=(K.block _ (by simp;omega) (own_ne (qB V I) (a3.out.below I).typ Dd)).trans (Below.heap_alloc _ _ _ a7);have c7:w3.cell? ⟨w.heap.size+1,1,none⟩=some vr:=(bF (w:=w2) (a:=⟨w.heap.size+1,1,none⟩) e1).trans c6;have f7:w3.frozen? ⟨w.heap.size+1,1,none⟩=false:=(World.frozen?_of_block (w:=w2) (a:=⟨w.heap.size+1,1,none⟩) e1).trans (a3.out.below I).f1))
    all_goals
     have b0:w2.heap[w.heap.size]?=some (.cells #[.int .i64 0,.slice none 0 0,.bool false] 68 (0,0)):=(I.block _ Oo).trans f8.out
     have e2:w3.heap[w.heap.size]?=some (.cells #[.int .i64 0,.slice none 0 0,.bool false] 68 (0,0)):=((K.block _ (by simp;omega) (own_ne (qB V I) ⟨_,b0⟩ Dd)).trans (Below.heap_alloc _ _ _ Oo)).trans b0
     have e3:Bl w w3:=qe Oo (qB V I) (bt a8.out I) K
     have e4:=(a3.out.below I).step (qF hv f9) (by rw[e0];exact a4) K
     have HF:Hid (Bl w (w3.setCell ⟨w.heap.size+1,1,none⟩ (.slice (some ⟨g3,0,none⟩) (k+1) cp3))/\(w3.setCell ⟨w.heap.size+1,1,none⟩ (.slice (some ⟨g3,0,none⟩) (k+1) cp3)).heap[w.heap.size]?=some (.cells #[.int .i64 0,.slice none 0 0,.bool false] 68 (0,0))/\∃vr vs,PR (w3.setCell ⟨w.heap.size+1,1,none⟩ (.slice (some ⟨g3,0,none⟩) (k+1) cp3)) w.heap.size (w.heap.size+1) bag.length false vr vs (zV bag (es.take (k+1)))):=
      hid ⟨e3.setCell (by show w.heap.size<=w.heap.size+1;omega) _,(bE _ _ _ _ (by show w.heap.size≠w.heap.size+1;omega)).trans e2,_,_,by rw[d9.out];exact e4⟩
     have g4:w.heap.size+1 < w3.heap.size:=by have:=K.size;simp at this;omega
     clear b0 e2 e3 e4 K a4 hv I a6
     go_wp2
     go_roundw
     case rel=>exact⟨k+1,Oo,Gg,by simpa[World.setCell]using g4,HF⟩
     case measure=>simp[intOf];omega
  ·obtain rfl:k=n:=Oo;have i1:¬((k:Int) < (k:Int)):=Oo;rw[HN.out,tL]at M;have c0:=M.c0;have c1:=M.c1;have c2:=M.c2;have z0:wr.cell? ⟨w.heap.size,0,none⟩=some (.int .i64 0):=by rw[cell_of_row _ _ _ _ _ _ O];rfl
   have z1:wr.cell? ⟨w.heap.size,1,none⟩=some (.slice none 0 0):=by rw[cell_of_row _ _ _ _ _ _ O];rfl
   have z2:wr.cell? ⟨w.heap.size,2,none⟩=some (.bool false):=by rw[cell_of_row _ _ _ _ _ _ O];rfl
   have y0:wr.frozen? ⟨w.heap.size,0,none⟩=false:=frozen_of_row _ _ _ _ _ O;have y1:wr.frozen? ⟨w.heap.size,1,none⟩=false:=frozen_of_row _ _ _ _ _ O;have y2:wr.frozen? ⟨w.heap.size,2,none⟩=false:=frozen_of_row _ _ _ _ _ O
   obtain⟨av,cv,g5⟩:∃av cv,vr=.slice av (zV bag es).length cv:=by
    rcases M.own.2 with ⟨rfl,h2⟩|⟨g,cp,cur,rfl,-⟩
    ·exact⟨none,0,by rw[h2]⟩
    ·exact⟨_,_,rfl⟩
   subst g5;have a3:=hid M;have a8:=hid U;have b7:=hid O;clear hH M U O;generalize (zV bag es).length=m at *;go_wp2
   refine bodyPost_ret (v:=.agg #[.int .i64 bag.length,.slice av m cv,.bool false]) (by simp[results,Tryz.results30,go_sem,z0,z1,z2]) rfl
    ⟨_,rfl,⟨_,((a3.out.other ⟨_,b7.out⟩ Oo).other (qD ⟨_,b7.out⟩) Oo).other (qD (qD ⟨_,b7.out⟩)) Oo⟩,((a8.out.setCell (bK _) _).setCell (bK _) _).setCell (bK _) _⟩
theorem IR.below{l:List (Int×Int)}(h:IR w v l)(hb:Bl w w'):IR w' v l:=by
 obtain⟨a,cap,rfl,h⟩:=h;refine⟨a,cap,rfl,?_⟩;rcases h with h|⟨b,o,rfl,h⟩
 ·exact Or.inl h
 ·exact Or.inr ⟨b,o,rfl,λj I=>⟨(hb.cell (p:=⟨b,o+j*2,none⟩) (bL w _ (h j I).1)).trans (h j I).1,(hb.cell (p:=⟨b,o+j*2+1,none⟩) (bL w _ (h j I).2)).trans (h j I).2⟩⟩
theorem qEL(l:List (Int×Int))(j:Nat)(h:j < l.length):(rcs l)[j*2]?=some (.int .i64 (l.getD j (0,0)).1)/\(rcs l)[j*2+1]?=some (.int .i64 (l.getD j (0,0)).2):=by
 unfold rcs;induction l generalizing j with
 |nil=>simp at h
 |cons a l ih=>
  rw[List.flatMap_cons];cases j with
  |zero=>simp
  |succ j=>
   have:=ih j (by simpa using h);rw[bX (by simp;omega),bX (by simp;omega)];simp only[List.length_cons,List.length_nil];rw[show(j+1)*2 - (0+1+1)=j*2 by omega,show(j+1)*2+1 - (0+1+1)=j*2+1 by omega];simpa using this
theorem QA{l:List (Int×Int)}(h:w.ownsRow B 28 2 v l.length (rcs l)):IR w v l:=by
 rcases h.2 with ⟨rfl,I⟩|⟨g,cap,cur,rfl,K,O,hr⟩
 ·exact⟨none,0,by rw[I],Or.inl I⟩
 ·refine⟨_,cap,rfl,Or.inr ⟨g,0,rfl,λj M=>?_⟩⟩;rw[Nat.zero_add,h.cellAt (j*2) Oo,h.cellAt (j*2+1) Oo];exact qEL l j M
def qFs(m:Nat->Bool):Value:=.agg #[.bool (m 0),.bool (m 1),.bool (m 2),.bool (m 3),.bool (m 4),.bool (m 5)]
def ZO(m:Nat->Bool):Array Value:=#[.bool (m 0),.bool (m 1),.bool (m 2),.bool (m 3),.bool (m 4),.bool (m 5)]
theorem qDS(m:Nat->Bool){v:Nat}(h:v < 6):(ZO m)[v]?=some (.bool (m v)):=by
 obtain rfl|rfl|rfl|rfl|rfl|rfl:v=0∨v=1∨v=2∨v=3∨v=4∨v=5:=Oo;all_goals rfl
theorem VY(m:Nat->Bool){v:Nat}(h:v < 6)(w:World):(Sem.run Tryz.prog (Instr.index 112 (.agg #[.bool (m 0),.bool (m 1),.bool (m 2),.bool (m 3),.bool (m 4),.bool (m 5)]) (.int .i64 v)) w)=.ok (.bool (m v)) w:=by
 obtain rfl|rfl|rfl|rfl|rfl|rfl:v=0∨v=1∨v=2∨v=3∨v=4∨v=5:=Oo;all_goals kernel_rfl
theorem qAz(w:World)(m:Nat->Bool):
 Cl 63 #[qFs m] w λe w'=>∃v,e=.returned v/\w'.ownsRow w.heap.size 3 1 v (plc m 6).length ((plc m 6).map (Value.int .i64))/\Bl w w':=by
 obtain⟨i0,hi,a2,a3,a4⟩:=info_parts Tryz.infoInt;have HX:Hid (∀(v:Nat) (W:World),v < 6->(Sem.run Tryz.prog (Instr.index 112 (.agg #[.bool (m 0),.bool (m 1),.bool (m 2),.bool (m 3),.bool (m 4),.bool (m 5)]) (.int .i64 v)) W)=.ok (.bool (m v)) W):=hid λv W h=>VY m h W
 have a5:Hid (((w.alloc (.cells #[.bool (m 0),.bool (m 1),.bool (m 2),.bool (m 3),.bool (m 4),.bool (m 5)] 112)).alloc (.cells #[] 3)).ownsRow w.heap.size 3 1 (.slice (some ⟨w.heap.size+1,0,none⟩) 0 0) (plc m 0).length ((plc m 0).map (Value.int .i64))):=hid (by
  have h:=oM (w.alloc (.cells #[.bool (m 0),.bool (m 1),.bool (m 2),.bool (m 3),.bool (m 4),.bool (m 5)] 112)) (e:=3) (size:=1) #[] 0 (bK _) Dd rfl;rw[World.size_alloc]at h;exact qF h (Nat.le_succ _))
 unfold qFs;go_enter Tryz.func63,Tryz.ntmps63
 go_wp2;go_loopw [3,8] (λu t wr=>∃v:Nat,v<=6/\t=.int .i64 v/\wr.ownsRow w.heap.size 3 1 u (plc m v).length ((plc m v).map (Value.int .i64))/\Bl w wr) (λ_ t _=>6 - (intOf t).toNat)
 case atStart=>exact⟨0,nZ _,rfl,a5.out,((bM _ _).alloc (bK _) _).alloc Ss _⟩
 case round=>
  obtain⟨v,hv,rfl,I,O⟩:=hrel;have a8:=xK m v;have a6:=O.size;by_cases a7:v < 6
  ·have i1:(v:Int) < 6:=Oo;have c1:=HX.out v wr a7;cases hR:m v
   ·rw[hR]at c1;have e1:=hid (zy m v hR);clear hR;go_wp2_with fail
    go_roundw
    case rel=>exact⟨v+1,Oo,Gg,by rw[e1.out];exact I,O⟩
    case measure=>simp[intOf];omega
   ·rw[hR]at c1;have e1:=hid (xi m v hR);clear hR
    go_wp2_with (first
     |(at_builtin;refine wpList_append_own _ rfl _ _ 25 rfl w.heap.size 3 i0 (.int .i64 0) 1 8 Tryz.underlying25 hi a2 a3 a4 rfl Dd _ _ _ rfl (I.alloc _) ⟨wr.heap.size,0,none⟩ 1 1 [.int .i64 v] rfl rfl ?c1 ?c2 ?c3 ?c4 ?c5 ?_)
     |fail)
    case c1=>
     intro j u V;match j,V with
     |0,V=>simp at V;subst V;simp[Addr.add]
    case c2=>intro u hu;simp at hu;subst hu;rfl
    case c3=>unfold maxLen;omega
    case c4=>omega
    case c5=>simp;omega
    intro v' w1 K M _;have hb:=yS a6 I O M
    have U:w1.ownsRow w.heap.size 3 1 v' (plc m (v+1)).length ((plc m (v+1)).map (Value.int .i64)):=by
     rw[e1.out];simpa using K
    clear K M I;go_wp2;go_roundw
    case rel=>exact⟨v+1,Oo,Gg,U,hb⟩
    case measure=>simp[intOf];omega
  ·obtain rfl:v=6:=Oo;go_wp2;go_ret;exact⟨_,rfl,I,O⟩
theorem uE{a:Addr}(hb:Bl w w')(h:w.cell? a=some v):w'.cell? a=some v:=(hb.cell (bL w _ h)).trans h
structure TbV where
 vs:List Int
 rows:List (List Int)
 ws:List Int
def qC:TbV:=⟨[],[],[]⟩
structure TvS(t:TbV):Prop where
 vs:t.vs.length<=1099511627776
 rows:zS t.rows
 ws:t.ws.length<=1099511627776
def TabAt(W:World)(b o:Nat)(t:TbV):Prop:=∃v0 v1 v2,W.cell? ⟨b,o,none⟩=some v0/\W.cell? ⟨b,o+1,none⟩=some v1/\W.cell? ⟨b,o+2,none⟩=some v2/\IT W v0 v1 v2 t.vs t.rows t.ws
theorem TabAt.below{t:TbV}(h:TabAt W b o t)(hb:Bl W W'):TabAt W' b o t:=by
 obtain⟨v0,v1,v2,c0,c1,c2,hi⟩:=h;exact⟨v0,v1,v2,uE hb c0,uE hb c1,uE hb c2,hi.below hb⟩
def ITs(W:World)(v:Value)(tl:List TbV):Prop:=∃a cap,v=.slice a tl.length cap/\(tl.length=0∨∃b o,a=some ⟨b,o,none⟩/\∀j,j < tl.length->TabAt W b (o+j*3) (tl.getD j qC))
theorem ITs.below{tl:List TbV}(h:ITs W v tl)(hb:Bl W W'):ITs W' v tl:=by
 obtain⟨a,cap,e,h⟩:=h;refine⟨a,cap,e,?_⟩;rcases h with h|⟨b,o,I,h⟩
 ·exact Or.inl h
 ·exact Or.inr ⟨b,o,I,λj K=>(h j K).below hb⟩
theorem qGF{α:Type}(c:α->List Value)(I:∀x,(c x).length=3)(K:List α):∀t,(K.flatMap c)[t]?=(K[t / 3]?).bind λx=>(c x)[t % 3]?:=by
 induction K with
 |nil=>intro t;simp
 |cons x r ih=>
  intro t;rw[List.flatMap_cons];by_cases h:t < 3
  ·rw[aL (by rw[I];omega),Nat.div_eq_of_lt h,Nat.mod_eq_of_lt h];rfl
  ·obtain⟨s,rfl⟩:∃s,t=s+3:=⟨t - 3,Oo⟩;rw[bX (by rw[I];omega)];have e:s+3 - (c x).length=s:=by rw[I];omega
   rw[e,ih s,Nat.add_mod_right,Nat.add_div_right _ Dd];rfl
theorem qDo{α:Type}(c:α->List Value)(M:∀x,(c x).length=3)(d:α){ty:TypeId}{tl:List α}(h:W.ownsRow B ty 3 v tl.length (tl.flatMap c)):
 ∃a cap,v=.slice a tl.length cap/\(tl.length=0∨∃g,a=some ⟨g,0,none⟩/\(∃cur,W.heap[g]?=some (.cells cur ty (0,0)))/\∀j q,j < tl.length->q < 3->W.cell? ⟨g,j*3+q,none⟩=(c (tl.getD j d))[q]?):=by
 rcases h.2 with ⟨rfl,I⟩|⟨g,cap,cur,rfl,O,K,I,-,-,U⟩
 ·exact⟨none,0,by rw[I],Or.inl I⟩
 ·refine⟨_,cap,rfl,Or.inr ⟨g,rfl,⟨cur,K⟩,λj q V hq=>?_⟩⟩;rw[cell_of_row _ _ _ _ _ _ K,<-Array.getElem?_toList,<-List.getElem?_take_of_lt (by omega:j*3+q < tl.length*3),U,qGF c M,show(j*3+q) / 3=j by omega,show(j*3+q) % 3=q by omega,gD,bC V];rfl
end Go.Proofs.YtkaipapdlnojiaaGreat
