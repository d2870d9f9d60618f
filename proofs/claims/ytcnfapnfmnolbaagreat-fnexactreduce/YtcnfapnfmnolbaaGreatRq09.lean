import Derived.Deep.AppendLies
import Derived.Deep.Draws
import Derived.Deep.LoopGhost
import Derived.Deep.RegionLaw
import Derived.Lib.Walk
import Derived.Test.YtcnfapnfmnolbaaGreatRq06
set_option maxHeartbeats 40000000
set_option maxRecDepth 1000000
namespace Go.Proofs.YtcnfapnfmnolbaaGreat
open Go.RowKit Meet
variable {bel:Bool}{u:Int}{l:LI}{rows:LL}{vs xs:List Value}{B b c n o pB q s:Nat}{e:TypeId}{v vr:Value}{W w:World}
theorem qCH(x:Int)(w:World):Cl 191 #[ai x] w λe w'=>e=.returned (.bool false)/\w'=w:=by
 go_enter Tryz.func191,Tryz.ntmps191;go_wp2;go_ret;exact⟨Ss,rfl⟩
theorem QF(x:Int)(w:World):Cl 156 #[ai x] w λe w'=>e=.returned (.bool false)/\w'=w:=by
 go_enter Tryz.func156,Tryz.ntmps156;go_wp2;go_ret;exact⟨Ss,rfl⟩
theorem YT(x y:Int)(w:World):Cl 155 #[ai x,ai y] w λe w'=>e=.returned (.bool (decide (x<y)))/\w'=w:=by
 go_enter Tryz.func155,Tryz.ntmps155;go_wp2_with (first|(go_at_call 191;refine(qCH _ _).mono ?_;rintro e w' ⟨rfl,rfl⟩));go_ret;exact⟨rfl,rfl⟩
def Up(l:LI):Prop:=∀i j,i<=j->j<l.length->l.getD i 0<=l.getD j 0
theorem uW(h:Asc l):Up l:=λi j K M=>by
 rcases Nat.lt_or_ge i j with I|I;exact Int.le_of_lt (h i j I M);rw[show i=j by omega];exact Int.le_refl _
def bsQ(l:LI)(x:Int):Nat:=l.countP λy=>decide (y<x)
def bsF(l:LI)(x:Int):Bool:=decide (bsQ l x<l.length)&&decide (l.getD (bsQ l x) 0=x)
theorem qDK{x:Int}(hq:q<=l.length)(M:∀j,j<q->l.getD j 0<x)(O:∀j,q<=j->j<l.length->x<=l.getD j 0):bsQ l x=q:=by
 unfold bsQ;conv=>lhs;rw[<-tD q l]
 rw[List.countP_append];have a:(l.take q).countP (λy=>decide (y<x))=(l.take q).length:=List.countP_eq_length.2 λy I=>by
  obtain⟨j,K,e⟩:=gO I;rw[bW]at K;have:=M j Oo;rw[gD,gE Oo]at this;rw[List.getElem_take]at e;simp only[Option.getD_some,e]at this;exact decide_eq_true this
 have b:(l.drop q).countP (λy=>decide (y<x))=0:=List.countP_eq_zero.2 λy I=>by
  obtain⟨j,K,e⟩:=gO I;rw[List.length_drop]at K;have:=O (q+j) Oo Oo;rw[gD,gE Oo]at this;rw[List.getElem_drop]at e;simp only[Option.getD_some,e]at this;simp;omega
 rw[a,b,bW];omega
theorem qEa(hs:Up l)(x:Int):∃q,q<=l.length/\(∀j,j<q->l.getD j 0<x)/\(∀j,q<=j->j<l.length->x<=l.getD j 0):=by
 have key:∀d k,k+d=l.length->(∀j,j<k->l.getD j 0<x)->∃q,q<=l.length/\(∀j,j<q->l.getD j 0<x)/\(∀j,q<=j->j<l.length->x<=l.getD j 0):=by
  intro d;induction d with
  |zero=>intro k M h;exact⟨k,Oo,h,λj I K=>Oo⟩
  |succ d ih=>
   intro k M h;by_cases O:l.getD k 0<x
   ·exact ih (k+1) Oo (λj U=>by
     rcases Nat.lt_or_ge j k with I|I;exact h j I;rw[show j=k by omega];exact O)
   exact⟨k,Oo,h,λj I K=>by have:=hs k j I K;omega⟩
 exact key l.length 0 Oo (λj U=>Oo)
theorem QG(hs:Up l)(x:Int):bsQ l x<=l.length/\(∀j,j<bsQ l x->l.getD j 0<x)/\(∀j,bsQ l x<=j->j<l.length->x<=l.getD j 0):=by
 obtain⟨q,I,K,M⟩:=qEa hs x;rw[qDK I K M];exact⟨I,K,M⟩
theorem VI{a b:Bool}{k:Nat}(h:k=q)(I:a=b):Ending.returned (.tuple #[ai k,.bool a])=.returned (.tuple #[ai q,.bool b]):=by rw[h,I]
theorem QQ(w:World)(v:Value)(l:LI)(x:Int)(h:IS w v l)(hl:l.length<=1099511627776)(hs:Up l):
 Cl 129 #[v,ai x] w λe w'=>e=.returned (.tuple #[ai (bsQ l x),.bool (bsF l x)])/\∃d,w'=w.drewN d:=by
 obtain⟨rq,U⟩:=Ex (bsQ l x);obtain⟨rf,V⟩:=Ex (bsF l x);rw[<-U,<-V];obtain⟨a,cap,rfl,hc⟩:=h;obtain⟨n,O⟩:=Ex l.length;rw[<-O]at hc hl ⊢;have HC:=ay hc;have HQ:Hh (∀q,q<=n->(∀t,t<q->l.getD t 0<x)->(∀t,q<=t->t<n->x<=l.getD t 0)->q=rq/\(decide (q<n)&&decide (l.getD q 0=x))=rf):=ay (by
  intro q h1 h2 h3;have e:=qDK (by rw[<-O];exact h1) h2 (by rw[<-O];exact h3);rw[U,V];unfold bsF;rw[e,<-O];exact⟨rfl,rfl⟩)
 have S:Hh (∀i j,i<=j->j<n->l.getD i 0<=l.getD j 0):=ay (by rw[O];exact hs);clear hc O hs U V;go_enter Tryz.func129,Tryz.ntmps129;go_wp2;go_loopg [7,8] n (λg s7 s8 wr=>∃lo hi q:Nat,s7=ai lo/\s8=ai hi/\lo<=hi/\hi<=n/\hi-lo<=g/\wr=w.drewN q/\Hh ((∀t,t<lo->l.getD t 0<x)/\(∀t,hi<=t->t<n->x<=l.getD t 0)))
 case atStart=>exact⟨0,n,0,rfl,rfl,nZ _,nR _,Oo,rfl,ay ⟨λt ht=>absurd ht (Nat.not_lt_zero _),λt h1 h2=>Oo⟩⟩
 case round=>
  obtain⟨lo,hi,q,rfl,rfl,a7,a5,hg,rfl,I⟩:=hrel;by_cases a8:lo<hi
  ·rcases HC.o with h0|⟨b,o,rfl,K⟩;omega;have cm:w.cell? (az b (o+(lo+hi) / 2))=some (ai (l.getD ((lo+hi) / 2) 0)):=K _ Oo;clear K;generalize hy:l.getD ((lo+hi) / 2) 0=y at cm;have Y:Hh (l.getD ((lo+hi) / 2) 0=y):=ay hy;clear hy;by_cases a3:y<x
   ·go_wp2_with (first|(go_at_call 155;refine(YT _ _ _).mono ?_;rintro e w' ⟨rfl,rfl⟩));go_roundg (hi-((lo+hi) / 2+1))
    case measure=>omega
    case rel=>
     refine⟨(lo+hi) / 2+1,hi,_,by rw[show((lo:Int)+(hi:Int)) / 2+1=(((lo+hi) / 2+1:Nat):Int)by omega],rfl,Oo,a5,nR _,rfl,ay ⟨λt ht=>?_,I.o.2⟩⟩;have:=S.o t ((lo+hi) / 2) Oo Oo;rw[Y.o]at this;omega
   go_wp2_with (first|(go_at_call 155;refine(YT _ _ _).mono ?_;rintro e w' ⟨rfl,rfl⟩));go_roundg ((lo+hi) / 2-lo)
   case measure=>omega
   case rel=>
    refine⟨lo,(lo+hi) / 2,_,rfl,by rw[show((lo:Int)+(hi:Int)) / 2=(((lo+hi) / 2:Nat):Int)by omega],Oo,Oo,nR _,rfl,ay ⟨I.o.1,λt ht a6=>?_⟩⟩;have:=S.o ((lo+hi) / 2) t ht a6;rw[Y.o]at this;omega
  have:hi=lo:=Oo;subst this;obtain⟨E1,E2⟩:=HQ.o hi a5 I.o.1 I.o.2;have a4:=ay E1;by_cases O:hi<n
  ·rcases HC.o with h0|⟨b,o,rfl,K⟩;omega;have cl:w.cell? (az b (o+hi))=some (ai (l.getD hi 0)):=K _ Oo;have M:Hh (decide (l.getD hi 0=x)=rf):=ay (by rw[<-E2];simp[O]);clear K E1 E2;generalize l.getD hi 0=y at *;have dn:decide (hi<n)=true:=Sy;by_cases a3:y=x
   ·go_wp2_with (first|(go_at_call 156;refine(QF _ _).mono ?_;rintro e w' ⟨rfl,rfl⟩));go_ret2;exact⟨VI a4.o (by rw[<-M.o];simp[a3]),_,rfl⟩
   go_wp2_with (first|(go_at_call 156;refine(QF _ _).mono ?_;rintro e w' ⟨rfl,rfl⟩));go_ret2;exact⟨VI a4.o (by rw[<-M.o];simp[a3]),_,rfl⟩
  have dn:decide (hi<n)=false:=Sy;have M:Hh (false=rf):=ay (by rw[<-E2,dn];rfl);clear E1 E2;go_wp2_with (first|(go_at_call 156;refine(QF _ _).mono ?_;rintro e w' ⟨rfl,rfl⟩));go_ret2;exact⟨VI a4.o M.o,_,rfl⟩
theorem Yr(h:Asc l)(p:Nat):Up (l.drop p):=λi j I K=>by
 rw[List.length_drop]at K;have:=uW h (p+i) (p+j) Oo Oo;simpa only[List.getD_eq_getElem?_getD,List.getElem?_drop]using this
theorem Tryz.infoCur:(Tryz.prog.info? 176).map (λi=>(i.zero,i.size,i.bytes))=some (some (.agg #[.pointer none,ai 0]),2,16):=Kl
theorem Xx{w':World}{U:TypeId}(h:w.ownsRow B e s v n xs)(ho:Og c w w')(ht:∃cur,w.1[c]?=some (.cells cur U (0,0)))(K:e≠U):w'.ownsRow B e s v n xs:=by
 obtain⟨h1,M⟩:=h;refine⟨h1,?_⟩;rcases M with M|⟨g,cap,cur,hv,hg,I,hr⟩;exact Or.inl M;refine Or.inr ⟨g,cap,cur,hv,hg,?_,hr⟩;rw[ho.block g (λe=>by
  obtain⟨V,O⟩:=ht;rw[e,O]at I;simp only[Option.some.injEq,Obj.cells.injEq]at I;exact K I.2.1.symm)]
 exact I
theorem own_ne{O:TypeId}(h:w.ownsRow B e s v n xs)(V:∃cur,w.1[b]?=some (.cells cur O (0,0)))(I:e≠O):some b≠v.ownBlock:=by
 intro hb;obtain⟨h1,h2⟩:=h;rcases h2 with ⟨rfl,_⟩|⟨g,cap,cur,rfl,hg,K,hr⟩;simp[Value.ownBlock]at hb;simp only[Value.ownBlock,Option.some.injEq]at hb;subst hb;obtain⟨U,M⟩:=V;rw[M]at K;simp only[Option.some.injEq,Obj.cells.injEq]at K;exact I K.2.1.symm
theorem xX(h:∃cur,w.1[b]?=some (.cells cur e (0,0))):b<w.1.size:=by
 obtain⟨cur,h⟩:=h;rcases Nat.lt_or_ge b w.1.size with I|I;exact I;rw[Array.getElem?_eq_none I]at h;cases h
theorem qH(w:World)(v:Value)(t:TypeId):∀j u,[v][j]?=some u->(w.alloc (.cells #[v] t)).cell? (((az w.1.size 0):Addr).add j)=some u:=by
 intro j u I;match j,I with
 |0,I=>simp at I;subst I;simp[Addr.add]
theorem Tryz.infoIS:(Tryz.prog.info? 24).map (λi=>(i.zero,i.size,i.bytes))=some (some sn,1,24):=Kl
structure PR(W:World)(B pB:Nat)(u:Int)(bel:Bool)(vr:Value)(vs:List Value)(rows:LL):Prop where
 typ:∃cur,W.1[pB]?=some (.cells cur 160 (0,0))
 c0:W.cell? (az pB 0)=some (ai u)
 c1:W.cell? (az pB 1)=some vr
 c2:W.cell? (az pB 2)=some (.bool bel)
 f1:W.frozen? (az pB 1)=false
 own:W.ownsRow B 24 1 vr rows.length vs
 len:vs.length=rows.length
 each:∀i,i<rows.length->W.ownsRow B 3 1 (vs.getD i undef) (rows.getD i []).length ((rows.getD i []).map ai)
theorem PR.below{W':World}(h:PR W B pB u bel vr vs rows)(hb:Bl W W'):PR W' B pB u bel vr vs rows where
 typ:=by rw[hb.block pB (xX h.typ)];exact h.typ
 c0:=(hb.cell (p:=(az pB 0)) (xX h.typ)).trans h.c0
 c1:=(hb.cell (p:=(az pB 1)) (xX h.typ)).trans h.c1
 c2:=(hb.cell (p:=(az pB 2)) (xX h.typ)).trans h.c2
 f1:=(hb.frozen (p:=(az pB 1)) (xX h.typ)).trans h.f1
 own:=qB h.own hb
 len:=h.len
 each i hi:=qB (h.each i hi) hb
theorem qN{g:Nat}(h:w.ownsRow B e s v n xs)(I:v.ownBlock=some g):∃cur,w.1[g]?=some (.cells cur e (0,0)):=by
 rcases h.2 with ⟨rfl,_⟩|⟨g',cap,cur,rfl,_,K,_⟩;simp[Value.ownBlock]at I;simp only[Value.ownBlock,Option.some.injEq]at I;subst I;exact⟨cur,K⟩
theorem PR.step{w3:World}{I:Value}{o:Obj}(h:PR W B pB u bel vr vs rows)
 (hv:W.ownsRow B 3 1 v l.length (l.map ai)) (O:w3.ownsRow B 24 1 I (rows.length+1) (vs++[v])) (hg:(W.alloc o).grownBy w3 vr.ownBlock):
 PR (w3.setCell (az pB 1) I) B pB u bel I (vs++[v]) (rows++[l]):=by
 have a4:(W.alloc o).1.size=W.1.size+1:=Ss;have hk:∀b,b<W.1.size->some b≠vr.ownBlock->w3.1[b]?=W.1[b]?:=λb hb a3=>(hg.block b Oo a3).trans (Below.heap_alloc _ _ _ hb);have K:w3.1[pB]?=W.1[pB]?:=hk pB (xX h.typ) (own_ne h.own h.typ Dd);have M:∃cur,w3.1[pB]?=some (.cells cur 160 (0,0)):=by rw[K];exact h.typ
 have U:Og pB w3 (w3.setCell (az pB 1) I):=(Og.refl _ _).set _ _;have hint:∀{x:Value} {k:Nat} {xs:List Value},W.ownsRow B 3 1 x k xs->(w3.setCell (az pB 1) I).ownsRow B 3 1 x k xs:=λhx=>
  Xx (qC hx (w':=w3) (λg V=>hk g ((hx.lt g V).2) (λe=>own_ne h.own (qN hx V) Dd e))) U M Dd
 refine⟨?_,?_,?_,?_,?_,?_,?_,λi hi=>?_⟩;obtain⟨cur,hc⟩:=M;exact⟨_,bI _ _ _ _ _ _ hc⟩;exact(bC _ _ _ _ Ss).trans ((bF (w:=W) (a:=(az pB 0)) K).trans h.c0);exact bG _ _ _ ((bF (w:=W) (a:=(az pB 1)) K).trans h.c1);exact(bC _ _ _ _ Ss).trans ((bF (w:=W) (a:=(az pB 2)) K).trans h.c2);rw[fS];exact(World.frozen?_of_block (w:=W) (a:=(az pB 1)) K).trans h.f1;rw[lA];exact Xx O U M Dd;rw[lA,lA,h.len];rfl;rw[lA]at hi;simp only[List.length_cons,List.length_nil]at hi;by_cases e:i<rows.length
 ·have h1:(rows++[l]).getD i []=rows.getD i []:=by rw[gD,aL e,<-gD]
  have h2:(vs++[v]).getD i undef=vs.getD i undef:=by rw[gD,aL (by rw[h.len];exact e),<-gD]
  rw[h1,h2];exact hint (h.each i e)
 obtain rfl:i=rows.length:=Oo;have h1:(rows++[l]).getD rows.length []=l:=by rw[gD,bQ (nR _)];simp
 have h2:(vs++[v]).getD rows.length undef=v:=by rw[gD,bQ (by rw[h.len];exact nR _),h.len];simp
 rw[h1,h2];exact hint hv
def zQ(bag:LI)(es:LL):LL:=bag.map λx=>plc (λi=>decide (x∈es.getD i [])) es.length
theorem Y8(bag:LI)(es:LL)(k:Nat)(h:k<bag.length):zQ (bag.take (k+1)) es=zQ (bag.take k) es++[plc (λi=>decide (bag.getD k 0∈es.getD i [])) es.length]:=by
 unfold zQ;rw[tA,gE h,gD (l:=bag),gE h];simp only[Option.toList_some,List.map_append,List.map_cons,List.map_nil,Option.getD_some]
theorem UZ(bag:LI)(es:LL):(zQ bag es).length=bag.length:=by simp[zQ]
theorem PR.other(h:PR W B pB u bel vr vs rows)(M:∃cur,W.1[c]?=some (.cells cur 160 (0,0)))(O:c≠pB):PR (W.setCell (az c o) v) B pB u bel vr vs rows:=by
 have I:Og c W (W.setCell (az c o) v):=(Og.refl _ _).set _ _;have K:(W.setCell (az c o) v).1[pB]?=W.1[pB]?:=I.block pB (Ne.symm O);exact⟨by rw[K];exact h.typ,(bF (w:=W) (a:=(az pB 0)) K).trans h.c0,(bF (w:=W) (a:=(az pB 1)) K).trans h.c1,(bF (w:=W) (a:=(az pB 2)) K).trans h.c2,(World.frozen?_of_block (w:=W) (a:=(az pB 1)) K).trans h.f1,
  Xx h.own I M Dd,h.len,λi hi=>Xx (h.each i hi) I M Dd⟩
theorem qX(h:∃cur,W.1[c]?=some (.cells cur e (0,0))):∃cur,(W.setCell (az c o) v).1[c]?=some (.cells cur e (0,0)):=by
 obtain⟨cur,h⟩:=h;exact⟨_,bI _ _ _ _ _ _ h⟩
theorem qF{B':Nat}(h:w.ownsRow B e s v n xs)(hB:B'<=B):w.ownsRow B' e s v n xs:=by
 obtain⟨K,I⟩:=h;refine⟨K,?_⟩;rcases I with I|⟨g,cap,cur,hv,M,O⟩;exact Or.inl I;exact Or.inr ⟨g,cap,cur,hv,bM hB M,O⟩
theorem Qw(w:World)(vb ve:Value)(bag:LI)(es:LL)(hb:IS w vb bag)(h:ISS w ve es)(d8:bag.length<=1000)(hl:qT es):
 Cl 122 #[vb,ve] w λe w'=>∃vr vs,e=.returned (.agg #[ai es.length,vr,.bool true])/\PR w' w.1.size (w.1.size+1) es.length true vr vs (zQ bag es)/\Bl w w':=by
 obtain⟨i0,hi,d9,e0,e1⟩:=info_parts Tryz.infoIS;have HE:=ay h;have HL:=ay hl;obtain⟨a,cap,rfl,hc⟩:=hb;obtain⟨a',a6,rfl,-⟩:=h;obtain⟨n,hn⟩:=Ex bag.length;have HN:=ay hn;have HC:=ay hc;rw[<-hn]at HC d8 ⊢;clear hc hn hl;have b8:PR ((w.alloc (.cells #[ai 0,sn,.bool false] 160)).alloc (.cells #[ai es.length,sn,.bool true] 160)) w.1.size (w.1.size+1) es.length true sn [] []:=
  ⟨⟨_,by have:=heap_alloc_new (w.alloc (.cells #[ai 0,sn,.bool false] 160)) (.cells #[ai es.length,sn,.bool true] 160);simpa using this⟩,Sg,Sg,Sg,Sg,oN _ _ _ _,rfl,λi hi=>by simp at hi⟩
 have b9:=ay b8;clear b8;go_enter Tryz.func122,Tryz.ntmps122;go_wp2;go_loopw [13] (λt wr=>∃k:Nat,k<=n/\t=ai k/\w.1.size+1<wr.1.size/\Hh (Bl w wr/\wr.1[w.1.size]?=some (.cells #[ai 0,sn,.bool false] 160 (0,0))/\∃vr vs,PR wr w.1.size (w.1.size+1) es.length true vr vs (zQ (bag.take k) es))) (λt _=>n-(intOf t).toNat);exact⟨0,nZ _,rfl,Ss,ay ⟨(aK).alloc Ss _,by rw[Below.heap_alloc _ _ _ Ss];exact heap_alloc_new _ _,_,_,b9.o⟩⟩;clear b9;obtain⟨k,hk,rfl,c9,hH⟩:=hrel;obtain⟨V,O,vr,vs,M⟩:=hH.o;by_cases d1:k<n
 ·have i1:(k:Int)<(n:Int):=Oo;rcases HC.o with h0|⟨b,o,rfl,a3⟩;omega;have d0:=a3 k d1;have c1:wr.cell? (az b (o+k))=some (ai (bag.getD k 0)):=(V.cell (p:=(az b (o+k))) (bL w _ d0)).trans d0;have e2:=ay (HE.o.below V);have e3:k<bag.length:=by rw[<-HN.o];exact d1
  have d2:=ay (Y8 bag es k e3);have d3:(zQ (bag.take k) es).length=k:=by rw[UZ,bW];omega
  have c5:=M.c1;have f5:=M.f1;have U:=M.own;rw[d3]at U;have a4:=ay M;have a9:=ay V;have e4:=ay O;have e5:=V.size;clear hH M V a3 d0 O;obtain⟨pl,b0⟩:=Ex (plc (λi=>decide (bag.getD k 0∈es.getD i [])) es.length);have K1:Hh (∀W,ISS W (.slice a' es.length a6) es->Cl 96 #[ai (bag.getD k 0),.slice a' es.length a6] W λe w'=>∃v,e=.returned v/\w'.ownsRow W.1.size 3 1 v pl.length (pl.map ai)/\Bl W w'):=ay (λW hW=>by rw[b0];exact yG W _ _ es hW HL.o);rw[<-b0]at d2;clear b0;generalize bag.getD k 0=x at *;go_wp2_with fail;go_region_law (first
   |(go_simp;go_at_call 96;refine(K1.o wr.drew e2.o).mono ?_;rintro e w2 ⟨v,rfl,hv,a7⟩;have I:Bl wr w2:=(bJ _ _).drew.trans a7;obtain⟨av,cv,rfl,-⟩:=qS hv;have c6:w2.cell? (az (w.1.size+1) 1)=some vr:=(I.cell (p:=(az (w.1.size+1) 1)) c9).trans c5;have a8:w.1.size+1<w2.1.size:=bN c9 I.size;have c8:∀o',(w2.alloc o').cell? (az (w.1.size+1) 1)=some vr:=λo'=>(World.cell?_alloc_past _ _ _ a8).trans c6)
   |(refine step_append_lies _ Fl _ _ _ Fl w.1.size 24 i0 sn 1 24 Tryz.underlying23 hi d9 e0 e1 rfl Dd vr k vs Fl ((qB U I).alloc _) (az w2.1.size 0) 1 1 [.slice av pl.length cv] Fl Fl (qH _ _ _) (λu hu=>by simp at hu;subst hu;rfl) Dd Um Oo (by have:=I.size;simp at this ⊢;omega) (w2.1.size+1) Ss ?_;intro g3 cp3 w3 a5 K e8 e9;have d4:w3.1[w.1.size+1]?=w2.1[w.1.size+1]?:=(K.block _ Sy (own_ne (qB U I) (a4.o.below I).typ Dd)).trans (Below.heap_alloc _ _ _ a8);have c7:w3.cell? (az (w.1.size+1) 1)=some vr:=(bF (w:=w2) (a:=(az (w.1.size+1) 1)) d4).trans c6;have f7:w3.frozen? (az (w.1.size+1) 1)=false:=(World.frozen?_of_block (w:=w2) (a:=(az (w.1.size+1) 1)) d4).trans (a4.o.below I).f1))
  all_goals
   have b1:w2.1[w.1.size]?=some (.cells #[ai 0,sn,.bool false] 160 (0,0)):=(I.block _ Oo).trans e4.o
   have d5:w3.1[w.1.size]?=some (.cells #[ai 0,sn,.bool false] 160 (0,0)):=((K.block _ Sy (own_ne (qB U I) ⟨_,b1⟩ Dd)).trans (Below.heap_alloc _ _ _ Oo)).trans b1
   have d6:Bl w w3:=zT Oo (qB U I) (bt a9.o I) K
   have d7:=(a4.o.below I).step (qF hv e5) (by rw[d3];exact a5) K
   have HF:Hh (Bl w (w3.setCell (az (w.1.size+1) 1) (.slice (some (az g3 0)) (k+1) cp3))/\(w3.setCell (az (w.1.size+1) 1) (.slice (some (az g3 0)) (k+1) cp3)).1[w.1.size]?=some (.cells #[ai 0,sn,.bool false] 160 (0,0))/\∃vr vs,PR (w3.setCell (az (w.1.size+1) 1) (.slice (some (az g3 0)) (k+1) cp3)) w.1.size (w.1.size+1) es.length true vr vs (zQ (bag.take (k+1)) es)):=
    ay ⟨d6.setCell (by show w.1.size<=w.1.size+1;omega) _,(bD _ _ _ _ (by show w.1.size≠w.1.size+1;omega)).trans d5,_,_,by rw[d2.o];exact d7⟩
   have e6:w.1.size+1<w3.1.size:=by have:=K.size;simp at this;omega
   clear b1 d5 d6 d7 K a5 hv I a7
   go_wp2
   go_roundw;exact⟨k+1,Oo,Gg,by simpa[World.setCell]using e6,HF⟩;exact Im
 obtain rfl:k=n:=Oo;have i1:¬((k:Int)<(k:Int)):=Oo;rw[HN.o,tL]at M;have c0:=M.c0;have c1:=M.c1;have c2:=M.c2;have z0:wr.cell? (az w.1.size 0)=some (ai 0):=by rw[cell_of_row _ _ _ _ _ _ O];rfl
 have z1:wr.cell? (az w.1.size 1)=some sn:=by rw[cell_of_row _ _ _ _ _ _ O];rfl
 have z2:wr.cell? (az w.1.size 2)=some (.bool false):=by rw[cell_of_row _ _ _ _ _ _ O];rfl
 have y0:wr.frozen? (az w.1.size 0)=false:=frozen_of_row _ _ _ _ _ O;have y1:wr.frozen? (az w.1.size 1)=false:=frozen_of_row _ _ _ _ _ O;have y2:wr.frozen? (az w.1.size 2)=false:=frozen_of_row _ _ _ _ _ O;obtain⟨av,cv,e7⟩:∃av cv,vr=.slice av (zQ bag es).length cv:=by
  rcases M.own.2 with ⟨rfl,h2⟩|⟨g,cp,cur,rfl,-⟩;exact⟨none,0,by rw[h2]⟩;exact⟨_,_,rfl⟩
 subst e7;have a4:=ay M;have a9:=ay V;have b7:=ay O;clear hH M V O;generalize (zQ bag es).length=m at *;go_wp2;refine bodyPost_ret (v:=.agg #[ai es.length,.slice av m cv,.bool true]) (by simp[results,Tryz.results122,go_sem,z0,z1,z2]) rfl
  ⟨_,rfl,⟨_,((a4.o.other ⟨_,b7.o⟩ Oo).other (qX ⟨_,b7.o⟩) Oo).other (qX (qX ⟨_,b7.o⟩)) Oo⟩,((a9.o.setCell (nR _) _).setCell (nR _) _).setCell (nR _) _⟩
def zh(bag:LI)(es:LL):LL:=es.map λe=>plc (λi=>decide (bag.getD i 0∈e)) bag.length
theorem Ua(bag:LI)(es:LL)(k:Nat)(h:k<es.length):zh bag (es.take (k+1))=zh bag (es.take k)++[plc (λi=>decide (bag.getD i 0∈es.getD k [])) bag.length]:=by
 unfold zh;rw[tA,gE h,gD (l:=es),gE h];simp only[Option.toList_some,List.map_append,List.map_cons,List.map_nil,Option.getD_some]
theorem J2(bag:LI)(es:LL):(zh bag es).length=es.length:=by simp[zh]
theorem kz(w:World)(vb ve:Value)(bag:LI)(es:LL)(hb:IS w vb bag)(h:ISS w ve es)(g4:bag.length<=1000)(hl:qT es)(hle:es.length<=1000):
 Cl 123 #[vb,ve] w λe w'=>∃vr vs,e=.returned (.agg #[ai bag.length,vr,.bool false])/\PR w' w.1.size (w.1.size+1) bag.length false vr vs (zh bag es)/\Bl w w':=by
 obtain⟨i0,hi,d9,e0,e1⟩:=info_parts Tryz.infoIS;have HE:=ay hb;have HL:=ay hl.2;obtain⟨a,cap,rfl,hc⟩:=h;obtain⟨a',a6,rfl,-⟩:=hb;obtain⟨n,hn⟩:=Ex es.length;have HN:=ay hn;have HC:=ay hc;rw[<-hn]at HC hle ⊢;clear hc hn hl;have b8:PR ((w.alloc (.cells #[ai 0,sn,.bool false] 160)).alloc (.cells #[ai bag.length,sn,.bool false] 160)) w.1.size (w.1.size+1) bag.length false sn [] []:=
  ⟨⟨_,by have:=heap_alloc_new (w.alloc (.cells #[ai 0,sn,.bool false] 160)) (.cells #[ai bag.length,sn,.bool false] 160);simpa using this⟩,Sg,Sg,Sg,Sg,oN _ _ _ _,rfl,λi hi=>by simp at hi⟩
 have b9:=ay b8;clear b8;go_enter Tryz.func123,Tryz.ntmps123;go_wp2;go_loopw [13] (λt wr=>∃k:Nat,k<=n/\t=ai k/\w.1.size+1<wr.1.size/\Hh (Bl w wr/\wr.1[w.1.size]?=some (.cells #[ai 0,sn,.bool false] 160 (0,0))/\∃vr vs,PR wr w.1.size (w.1.size+1) bag.length false vr vs (zh bag (es.take k)))) (λt _=>n-(intOf t).toNat);exact⟨0,nZ _,rfl,Ss,ay ⟨(aK).alloc Ss _,by rw[Below.heap_alloc _ _ _ Ss];exact heap_alloc_new _ _,_,_,b9.o⟩⟩;clear b9;obtain⟨k,hk,rfl,c9,hH⟩:=hrel;obtain⟨U,O,vr,vs,M⟩:=hH.o;by_cases d1:k<n
 ·have i1:(k:Int)<(n:Int):=Oo;rcases HC.o with h0|⟨b,o,rfl,a3⟩;omega;obtain⟨ue,d0,d2⟩:=a3 k d1;have c1:wr.cell? (az b (o+k))=some ue:=(U.cell (p:=(az b (o+k))) (bL w _ d0)).trans d0;have e2:=ay (d2.below U);obtain⟨ae,ce,rfl,-⟩:=d2;have e3:=ay (HE.o.below U);have e4:k<es.length:=by rw[<-HN.o];exact d1
  have d3:=ay (Ua bag es k e4);have d4:(zh bag (es.take k)).length=k:=by rw[J2,bW];omega
  have c5:=M.c1;have f5:=M.f1;have V:=M.own;rw[d4]at V;have a4:=ay M;have a9:=ay U;have e5:=ay O;have e6:=U.size;clear hH M U a3 d0 O;obtain⟨pl,b0⟩:=Ex (plc (λi=>decide (bag.getD i 0∈es.getD k [])) bag.length);have K1:Hh (∀W,IS W (.slice a' bag.length a6) bag->IS W (.slice ae (es.getD k []).length ce) (es.getD k [])->Cl 75 #[.slice a' bag.length a6,.slice ae (es.getD k []).length ce] W λe w'=>∃v,e=.returned v/\w'.ownsRow W.1.size 3 1 v pl.length (pl.map ai)/\Bl W w'):=ay (λW hW e7=>by rw[b0];exact xI W _ _ bag (es.getD k []) hW e7 Oo (HL.o k));rw[<-b0]at d3;clear b0;generalize es.getD k []=ed at *;generalize ed.length=edl at *;go_wp2_with fail;go_region_law (first
   |(go_simp;go_at_call 75;refine(K1.o wr.drew e3.o e2.o).mono ?_;rintro e w2 ⟨v,rfl,hv,a7⟩;have I:Bl wr w2:=(bJ _ _).drew.trans a7;obtain⟨av,cv,rfl,-⟩:=qS hv;have c6:w2.cell? (az (w.1.size+1) 1)=some vr:=(I.cell (p:=(az (w.1.size+1) 1)) c9).trans c5;have a8:w.1.size+1<w2.1.size:=bN c9 I.size;have c8:∀o',(w2.alloc o').cell? (az (w.1.size+1) 1)=some vr:=λo'=>(World.cell?_alloc_past _ _ _ a8).trans c6)
   |(refine step_append_lies _ Fl _ _ _ Fl w.1.size 24 i0 sn 1 24 Tryz.underlying23 hi d9 e0 e1 rfl Dd vr k vs Fl ((qB V I).alloc _) (az w2.1.size 0) 1 1 [.slice av pl.length cv] Fl Fl (qH _ _ _) (λu hu=>by simp at hu;subst hu;rfl) Dd Um Oo (by have:=I.size;simp at this ⊢;omega) (w2.1.size+1) Ss ?_;intro g3 cp3 w3 a5 K f8 f9;have d5:w3.1[w.1.size+1]?=w2.1[w.1.size+1]?:=(K.block _ Sy (own_ne (qB V I) (a4.o.below I).typ Dd)).trans (Below.heap_alloc _ _ _ a8);have c7:w3.cell? (az (w.1.size+1) 1)=some vr:=(bF (w:=w2) (a:=(az (w.1.size+1) 1)) d5).trans c6;have f7:w3.frozen? (az (w.1.size+1) 1)=false:=(World.frozen?_of_block (w:=w2) (a:=(az (w.1.size+1) 1)) d5).trans (a4.o.below I).f1))
  all_goals
   have b1:w2.1[w.1.size]?=some (.cells #[ai 0,sn,.bool false] 160 (0,0)):=(I.block _ Oo).trans e5.o
   have d6:w3.1[w.1.size]?=some (.cells #[ai 0,sn,.bool false] 160 (0,0)):=((K.block _ Sy (own_ne (qB V I) ⟨_,b1⟩ Dd)).trans (Below.heap_alloc _ _ _ Oo)).trans b1
   have d7:Bl w w3:=zT Oo (qB V I) (bt a9.o I) K
   have d8:=(a4.o.below I).step (qF hv e6) (by rw[d4];exact a5) K
   have HF:Hh (Bl w (w3.setCell (az (w.1.size+1) 1) (.slice (some (az g3 0)) (k+1) cp3))/\(w3.setCell (az (w.1.size+1) 1) (.slice (some (az g3 0)) (k+1) cp3)).1[w.1.size]?=some (.cells #[ai 0,sn,.bool false] 160 (0,0))/\∃vr vs,PR (w3.setCell (az (w.1.size+1) 1) (.slice (some (az g3 0)) (k+1) cp3)) w.1.size (w.1.size+1) bag.length false vr vs (zh bag (es.take (k+1)))):=
    ay ⟨d7.setCell (by show w.1.size<=w.1.size+1;omega) _,(bD _ _ _ _ (by show w.1.size≠w.1.size+1;omega)).trans d6,_,_,by rw[d3.o];exact d8⟩
   have e8:w.1.size+1<w3.1.size:=by have:=K.size;simp at this;omega
   clear b1 d6 d7 d8 K a5 hv I a7
   go_wp2
   go_roundw;exact⟨k+1,Oo,Gg,by simpa[World.setCell]using e8,HF⟩;exact Im
 obtain rfl:k=n:=Oo;have i1:¬((k:Int)<(k:Int)):=Oo;rw[HN.o,tL]at M;have c0:=M.c0;have c1:=M.c1;have c2:=M.c2;have z0:wr.cell? (az w.1.size 0)=some (ai 0):=by rw[cell_of_row _ _ _ _ _ _ O];rfl
 have z1:wr.cell? (az w.1.size 1)=some sn:=by rw[cell_of_row _ _ _ _ _ _ O];rfl
 have z2:wr.cell? (az w.1.size 2)=some (.bool false):=by rw[cell_of_row _ _ _ _ _ _ O];rfl
 have y0:wr.frozen? (az w.1.size 0)=false:=frozen_of_row _ _ _ _ _ O;have y1:wr.frozen? (az w.1.size 1)=false:=frozen_of_row _ _ _ _ _ O;have y2:wr.frozen? (az w.1.size 2)=false:=frozen_of_row _ _ _ _ _ O;obtain⟨av,cv,e9⟩:∃av cv,vr=.slice av (zh bag es).length cv:=by
  rcases M.own.2 with ⟨rfl,h2⟩|⟨g,cp,cur,rfl,-⟩;exact⟨none,0,by rw[h2]⟩;exact⟨_,_,rfl⟩
 subst e9;have a4:=ay M;have a9:=ay U;have b7:=ay O;clear hH M U O;generalize (zh bag es).length=m at *;go_wp2;refine bodyPost_ret (v:=.agg #[ai bag.length,.slice av m cv,.bool false]) (by simp[results,Tryz.results123,go_sem,z0,z1,z2]) rfl
  ⟨_,rfl,⟨_,((a4.o.other ⟨_,b7.o⟩ Oo).other (qX ⟨_,b7.o⟩) Oo).other (qX (qX ⟨_,b7.o⟩)) Oo⟩,((a9.o.setCell (nR _) _).setCell (nR _) _).setCell (nR _) _⟩
def qGh(m:Nat->Bool):Value:=.agg #[.bool (m 0),.bool (m 1),.bool (m 2),.bool (m 3),.bool (m 4),.bool (m 5)]
def XL(m:Nat->Bool):Array Value:=#[.bool (m 0),.bool (m 1),.bool (m 2),.bool (m 3),.bool (m 4),.bool (m 5)]
theorem qEG(m:Nat->Bool){v:Nat}(h:v<6):(XL m)[v]?=some (.bool (m v)):=by
 obtain rfl|rfl|rfl|rfl|rfl|rfl:v=0∨v=1∨v=2∨v=3∨v=4∨v=5:=Oo;all_goals rfl
theorem UQ(m:Nat->Bool){v:Nat}(h:v<6)(w:World):(Sem.run Tryz.prog (Instr.index 135 (.agg #[.bool (m 0),.bool (m 1),.bool (m 2),.bool (m 3),.bool (m 4),.bool (m 5)]) (ai v)) w)=.ok (.bool (m v)) w:=by
 obtain rfl|rfl|rfl|rfl|rfl|rfl:v=0∨v=1∨v=2∨v=3∨v=4∨v=5:=Oo;all_goals kernel_rfl
theorem qB2(w:World)(m:Nat->Bool):
 Cl 105 #[qGh m] w λe w'=>∃v,e=.returned v/\w'.ownsRow w.1.size 3 1 v (plc m 6).length ((plc m 6).map ai)/\Bl w w':=by
 obtain⟨i0,hi,a3,a4,a5⟩:=info_parts Tryz.infoInt;have HX:Hh (∀(v:Nat) (W:World),v<6->(Sem.run Tryz.prog (Instr.index 135 (.agg #[.bool (m 0),.bool (m 1),.bool (m 2),.bool (m 3),.bool (m 4),.bool (m 5)]) (ai v)) W)=.ok (.bool (m v)) W):=ay λv W h=>UQ m h W;have a6:Hh (((w.alloc (.cells #[.bool (m 0),.bool (m 1),.bool (m 2),.bool (m 3),.bool (m 4),.bool (m 5)] 135)).alloc (.cells #[] 3)).ownsRow w.1.size 3 1 (.slice (some (az (w.1.size+1) 0)) 0 0) (plc m 0).length ((plc m 0).map ai)):=ay (by
  have h:=oM (w.alloc (.cells #[.bool (m 0),.bool (m 1),.bool (m 2),.bool (m 3),.bool (m 4),.bool (m 5)] 135)) (e:=3) (size:=1) #[] 0 (nR _) Dd rfl;rw[World.size_alloc]at h;exact qF h (Nat.le_succ _))
 unfold qGh;go_enter Tryz.func105,Tryz.ntmps105;go_wp2;go_loopw [3,8] (λu t wr=>∃v:Nat,v<=6/\t=ai v/\wr.ownsRow w.1.size 3 1 u (plc m v).length ((plc m v).map ai)/\Bl w wr) (λ_ t _=>6-(intOf t).toNat);exact⟨0,nZ _,rfl,a6.o,(aK).alloc Ss _⟩;obtain⟨v,hv,rfl,I,O⟩:=hrel;have a9:=xp m v;have a7:=O.size;by_cases a8:v<6
 ·have i1:(v:Int)<6:=Oo;have c1:=HX.o v wr a8;cases hR:m v
  ·rw[hR]at c1;have e1:=ay (jQ m v hR);clear hR;go_wp2_with fail;go_roundw;exact⟨v+1,Oo,Gg,by rw[e1.o];exact I,O⟩;exact Im
  rw[hR]at c1;have e1:=ay (kI m v hR);clear hR;go_wp2_with (first
   |(at_builtin;refine wpList_append_own _ rfl _ _ 24 rfl w.1.size 3 i0 (ai 0) 1 8 Tryz.underlying24 hi a3 a4 a5 rfl Dd _ _ _ rfl (I.alloc _) (az wr.1.size 0) 1 1 [ai v] rfl rfl ?c1 ?c2 ?c3 ?c4 ?c5 ?_)
   |fail)
  case c1=>
   intro j u V;match j,V with
   |0,V=>simp at V;subst V;simp[Addr.add]
  case c2=>intro u hu;simp at hu;subst hu;rfl
  case c3=>unfold maxLen;omega
  case c4=>omega
  case c5=>simp;omega
  intro v' w1 K M _;have hb:=kq a7 I O M;have U:w1.ownsRow w.1.size 3 1 v' (plc m (v+1)).length ((plc m (v+1)).map ai):=by
   rw[e1.o];simpa using K
  clear K M I;go_wp2;go_roundw;exact⟨v+1,Oo,Gg,U,hb⟩;exact Im
 obtain rfl:v=6:=Oo;go_wp2;go_ret;exact⟨_,rfl,I,O⟩
end Go.Proofs.YtcnfapnfmnolbaaGreat
