import Derived.Test.YtcnfapnfmnolbaaGreatRq08
import Derived.Test.YtcnfapnfmnolbaaGreatRq20
set_option maxHeartbeats 40000000
set_option maxRecDepth 1000000
namespace Go.Proofs.YtcnfapnfmnolbaaGreat
open Go.RowKit
variable {bag l:LI}{es:LL}{B C e i j k n r u:Nat}{x:Nat->Rat}{q:Rat}{v y z:Value}{w:World}
def plN(p:Nat->Bool)(k:Nat):List Nat:=(List.range k).filter p
theorem qGA(p:Nat->Bool)(k:Nat):plc p k=(plN p k).map Int.ofNat:=rfl
def qQ(bag:LI)(es:LL):List (List Nat):=bag.map λx=>plN (λi=>decide (x∈es.getD i [])) es.length
def yp(bag:LI)(es:LL):List (List Nat):=es.map λe=>plN (λi=>decide (bag.getD i 0∈e)) bag.length
theorem qAp(bag:LI)(es:LL):zQ bag es=(qQ bag es).map (λl=>l.map Int.ofNat):=by
 unfold zQ qQ;rw[List.map_map];rfl
theorem qCQ(bag:LI)(es:LL):zh bag es=(yp bag es).map (λl=>l.map Int.ofNat):=by
 unfold zh yp;rw[List.map_map];rfl
theorem qBT{W:World}{pB:Nat}{u:Int}{bel:Bool}{vr:Value}{vs:List Value}{L:List (List Nat)}(h:PR W B pB u bel vr vs (L.map (λl=>l.map Int.ofNat))):RowsAt W vr L:=by
 have I:=h.own;have hlen:=h.len;rw[lM]at I hlen;rcases I.2 with ⟨rfl,V⟩|⟨g,cap,cur,rfl,a3,hc,hn,-,-,ht⟩;exact⟨none,0,by rw[V],λi hi=>Oo⟩;refine⟨_,cap,rfl,λi hi=>⟨g,0,vs.getD i undef,rfl,?_,?_⟩⟩
 ·rw[cell_of_row _ _ _ _ _ _ hc,Nat.zero_add,<-Array.getElem?_toList];have:(cur.toList.take (L.length*1))[i]?=vs[i]?:=by rw[ht]
  rw[List.getElem?_take_of_lt Oo]at this;rw[this,gD,gE Oo];rfl
 have U:=h.each i (by rw[lM];exact hi);have hg:(L.map (λl=>l.map Int.ofNat)).getD i []=(L.getD i []).map Int.ofNat:=by
  rw[gD,bK,gD,gE hi];rfl
 rw[hg]at U;obtain⟨a,cp,e,M⟩:=qS U;rw[lM]at e M;refine⟨a,cp,e,λj O=>?_⟩;rcases M with h0|⟨b,o,ea,K⟩;omega;refine⟨b,o,ea,(K j O).trans ?_⟩;generalize L.getD i []=q at O ⊢;rw[gD,bK,gD,gE O];rfl
def zS(m u:Nat)(M:Nat->Nat->Rat)(x:Nat->Rat):Prop:=Cov.Cover m u M x/\∀y,Cov.Cover m u M y->Cov.Lex (Cov.key 1 u x) (Cov.key 1 u y)
def Xa(m u:Nat)(M:Nat->Nat->Rat)(x:Nat->Rat):Prop:=Cov.Pack m u M x/\∀y,Cov.Pack m u M y->Cov.Lex (Cov.key (-1) u x) (Cov.key (-1) u y)
def Parts(u:Nat)(x:Nat->Rat):Prop:=∃D:Int,D≠0/\D.natAbs<=5040/\∀j,j<u->Cov.Whole 5040 (x j*((D:Int):Rat))
theorem Xb{m:Nat}{A:Nat->Nat->Rat}{bar:Nat->Bool}{s:Cov.Sx}(h:Cov.Good m n A bar s)(K:m<=7)(M:∀j,j<=n->∀r,r<m->Cov.Whole 1 (A j r))(u:Nat):Parts u (Cov.xb m n s):=by
 obtain⟨D,O,hD,U⟩:=h.inv.small M;have V:=Xg K;refine⟨D,O,Oo,λj _=>?_⟩;by_cases I:∃i,i<m/\s.B i=j;obtain⟨i,hi,rfl⟩:=I;unfold Cov.xb;rw[h.inv.val_basic _ hi];exact(U i hi n (nR _)).mono V;unfold Cov.xb;rw[Cov.val_not (λi hi e=>I ⟨i,hi,e⟩)];exact⟨0,Ss,Ss⟩
theorem Parts.sm(h:Parts u x)(I:j<u):Sm 5040 (x j):=by
 obtain⟨D,K,M,O⟩:=h;exact zV K M (O j I) (nR _)
theorem Parts.sum(h:Parts u x)(M:k<=u)(O:u<=7):Sm 36000 (Cov.sm k x):=by
 obtain⟨D,I,U,K⟩:=h;refine zV (D:=D) (Z:=k*5040) I Oo ?_ ?_
 ·have:Cov.sm k x*((D:Int):Rat)=Cov.sm k (λj=>x j*((D:Int):Rat)):=by
   rw[show(λj=>x j*((D:Int):Rat))=(λj=>((D:Int):Rat)*x j) from funext λj=>Rr,Cov.sm_mul];grind
  rw[this];exact Cov.whole_sm k (λj V=>K j Oo)
 have:k*5040<=7*5040:=Nat.mul_le_mul Oo (nR _);omega
theorem QJ(L:List (List Nat))(r e:Nat):0<=inc L r e:=by
 unfold inc;split;decide;exact Rat.le_refl
theorem qAq(w:World)(u:Nat)(vr:Value)(L:List (List Nat))(hu:u<=7)(hL:L.length<=6)(hr:RowsAt w vr L)(hlen:∀i,i<L.length->(L.getD i []).length<=7)(I:∀i,i<L.length->∀j∈L.getD i [],j<u)
 (K:∀r,r<L.length->∃e,e<u/\inc L r e=1):
 Cl 121 #[.agg #[ai u,vr,.bool true]] w λe w'=>∃g x,e=.returned (.slice (some (az g 0)) u u)/\FrAt w' g u x/\zS L.length u (inc L) x/\Parts u x/\w.1.size<=g/\g<w'.1.size/\Bl w w':=by
 have hg:=Cov.cover_good (m:=L.length) (u:=u) (M:=inc L);have O:(λi=>u+L.length+L.length-L.length+i)=λi=>u+L.length+i:=funext λi=>Oo;refine(vZ w u (u+L.length+L.length) vr L true hu Oo (λ_=>hL) rfl Oo hr hlen I (Cov.coverA L.length u (inc L)) (λi hi j hj=>U4 u L i j hi hj) (λj _ r _=>jt _ _ _ _ _) (by rw[O];exact hg)).mono ?_;rintro e w' ⟨g,U,s',rfl,hF,V,hG,h1,h2,hb⟩;rw[qBg,O]at V;obtain⟨g1,g2,g3⟩:=Cov.cover_least (λr _ e _=>QJ L r e) K V;exact⟨g,_,rfl,hF,⟨g2,g3⟩,Xb hG Oo (λj _ r _=>jt _ _ _ _ _) u,h1,h2,hb⟩
theorem qCR(w:World)(u:Nat)(vr:Value)(L:List (List Nat))(hu:u<=6)(hL:L.length<=7)(hr:RowsAt w vr L)(hlen:∀i,i<L.length->(L.getD i []).length<=7)(I:∀i,i<L.length->∀j∈L.getD i [],j<u)
 (K:∀e,e<u->∃r,r<L.length/\inc L r e=1):
 Cl 121 #[.agg #[ai u,vr,.bool false]] w λe w'=>∃g x,e=.returned (.slice (some (az g 0)) u u)/\FrAt w' g u x/\Xa L.length u (inc L) x/\Parts u x/\w.1.size<=g/\g<w'.1.size/\Bl w w':=by
 have hg:=Cov.pack_good (m:=L.length) (u:=u) (M:=inc L);have O:(λi=>u+L.length-L.length+i)=λi=>u+i:=funext λi=>Oo;refine(vZ w u (u+L.length) vr L false Oo Oo (λh=>by cases h) rfl Oo hr hlen I (Cov.packA L.length u (inc L)) (λi hi j hj=>qAJ u L i j hi hj) (λj _ r _=>Xl _ _ _ _ _) (by rw[O];exact hg)).mono ?_;rintro e w' ⟨g,U,s',rfl,hF,V,hG,h1,h2,hb⟩;rw[qCX,O]at V;obtain⟨g1,g2,g3⟩:=Cov.pack_least (λr _ e _=>QJ L r e) K V;exact⟨g,_,rfl,hF,⟨g2,g3⟩,Xb hG Oo (λj _ r _=>Xl _ _ _ _ _) u,h1,h2,hb⟩
def prs(u:Nat)(x:Nat->Rat):List (Int×Int):=(List.range u).map λj=>((x j).num,((x j).den:Int))
theorem qc(u:Nat)(x:Nat->Rat):(prs u x).length=u:=by simp[prs]
theorem ya(h:j<u):(prs u x).getD j (0,0)=((x j).num,((x j).den:Int)):=by
 unfold prs;rw[gD,bK,List.getElem?_range h];rfl
theorem qBU{g:Nat}(h:FrAt w g u x):IR w (.slice (some (az g 0)) u u) (prs u x):=by
 refine⟨_,u,by rw[qc],Or.inr ⟨g,0,rfl,λj I=>?_⟩⟩;rw[qc]at I;rw[ya I,Nat.zero_add];exact⟨h.num j I,h.den j I⟩
theorem V0(w:World)(v:Value)(u:Nat)(x:Nat->Rat)(M:u<=7)(h:IR w v (prs u x))(K:Parts u x):
 Cl 120 #[v] w λe w'=>∃v,e=.returned v/\w'.ownsRow w.1.size 36 2 v (prs u x).length (rcs (prs u x))/\Bl w w':=by
 refine J9 w v (prs u x) h (by rw[qc];omega) (λj I=>?_);rw[qc]at I;rw[ya I];have:=K.sm I;have O:=this.1;have U:=this.2;refine⟨⟨?_,?_⟩,?_,?_⟩ <;> simp only <;> omega
theorem jZ(h:Sm 1000000 q):OkR q.num q.den:=by
 have I:=h.1;have K:=h.2;have M:=q.den_pos;refine⟨Oo,Oo,Oo,Oo,?_⟩;have:=q.reduced;unfold Nat.Coprime at this;rw[Int.gcd,Int.natAbs_natCast];exact this
theorem qG8(p q:Rat)(w:World)(K:Sm 1000000 p)(hq:Sm 1000000 q)(hs:Sm 1000000 (p+q)):
 Cl 148 #[.agg #[ai p.num,ai p.den],.agg #[ai q.num,ai q.den]] w λe w'=>e=.returned (.agg #[ai (p+q).num,ai (p+q).den])/\Bl w w':=by
 have I:(p.den:Int)*(q.den:Int)≠0:=Int.mul_ne_zero (by have:=p.den_nz;omega) (by have:=q.den_nz;omega);have e:p+q=Rat.divInt (p.num*q.den+q.num*p.den) (p.den*q.den):=by
  rw[<-Rat.divInt_add_divInt _ _ (by have:=p.den_nz;omega) (by have:=q.den_nz;omega),Rat.num_divInt_den,Rat.num_divInt_den]
 obtain⟨f1,f2⟩:=qCZ (p.num*q.den+q.num*p.den) (p.den*q.den) I;rw[<-e]at f1 f2;have:=qEP p.num p.den q.num q.den w (jZ K) (jZ hq) (by rw[f1,f2];exact jZ hs);rw[f1,f2]at this;exact this
theorem qEn(w:World)(v:Value)(u:Nat)(x:Nat->Rat)(M:u<=7)(h:IR w v (prs u x))(I:Parts u x):
 Cl 124 #[v] w λe w'=>e=.returned (.agg #[ai (Cov.sm u x).num,ai (Cov.sm u x).den])/\Bl w w':=by
 have:=qAl w v (prs u x) h (by rw[qc];omega) (λk=>((Cov.sm k x).num,((Cov.sm k x).den:Int))) rfl (λk W K=>by
  rw[qc]at K;rw[ya K];exact qG8 (Cov.sm k x) (x k) W ((I.sum Oo M).mono Oo) ((I.sm K).mono Oo) ((I.sum (k:=k+1) Oo M).mono Oo))
 rw[qc]at this;exact this
def f5(x y z u v:Value):Nat->Value
 |0=>x
 |1=>y
 |2=>z
 |3=>u
 |_=>v
theorem ArrAt.five{x u:Value}(h:ArrAt w k 5 (f5 x y z u v)):w.cell? (az k 0)=some x/\w.cell? (az k 1)=some y/\w.cell? (az k 2)=some z/\w.cell? (az k 3)=some u/\w.cell? (az k 4)=some v:=⟨h.cell 0 Oo,h.cell 1 Oo,h.cell 2 Oo,h.cell 3 Oo,h.cell 4 Oo⟩
theorem ArrAt.frees{f:Nat->Value}(h:ArrAt w k 5 f):w.frozen? (az k 0)=false/\w.frozen? (az k 1)=false/\w.frozen? (az k 2)=false/\w.frozen? (az k 3)=false/\w.frozen? (az k 4)=false:=⟨h.free 0 Oo,h.free 1 Oo,h.free 2 Oo,h.free 3 Oo,h.free 4 Oo⟩
theorem ArrAt.five_set{x u:Value}(h:ArrAt w k 5 (f5 x y z u v))(I K M O v':Value):
 ArrAt (((((w.setCell (az k 0) I).setCell (az k 1) K).setCell (az k 2) M).setCell (az k 3) O).setCell (az k 4) v') k 5 (f5 I K M O v'):=by
 have:=((((h.set (i:=0) Oo I).set (i:=1) Oo K).set (i:=2) Oo M).set (i:=3) Oo O).set (i:=4) Oo v';refine⟨λj U=>?_,this.free⟩;rw[this.cell j U];match j,U with
 |0,_=>rfl
 |1,_=>rfl
 |2,_=>rfl
 |3,_=>rfl
 |4,_=>rfl
theorem yW(bag:LI)(es:LL):(qQ bag es).length=bag.length:=by simp[qQ]
theorem qCh(bag:LI)(es:LL):(yp bag es).length=es.length:=by simp[yp]
theorem uw(bag:LI)(es:LL)(h:i<bag.length):(qQ bag es).getD i []=plN (λk=>decide (bag.getD i 0∈es.getD k [])) es.length:=by
 unfold qQ;rw[gD,bK,gD (l:=bag),gE h];rfl
theorem Qi(bag:LI)(es:LL)(h:i<es.length):(yp bag es).getD i []=plN (λk=>decide (bag.getD k 0∈es.getD i [])) bag.length:=by
 unfold yp;rw[gD,bK,gD (l:=es),gE h];rfl
theorem Yp(p:Nat->Bool)(k:Nat):(plN p k).length<=k:=by
 have:=List.length_filter_le p (List.range k);rw[List.length_range]at this;exact this
theorem vz{p:Nat->Bool}:j∈plN p k↔j<k/\p j=true:=by
 unfold plN;rw[List.mem_filter,List.mem_range]
theorem qCi(I:r<bag.length)(K:e<es.length):inc (qQ bag es) r e=if bag.getD r 0∈es.getD e [] then 1 else 0:=by
 unfold inc;rw[uw bag es I];by_cases h:bag.getD r 0∈es.getD e [];rw[if_pos h,if_pos (vz.2 ⟨K,decide_eq_true h⟩)];rw[if_neg h,if_neg (λM=>h (of_decide_eq_true (vz.1 M).2))]
theorem qDl(I:r<es.length)(K:e<bag.length):inc (yp bag es) r e=if bag.getD e 0∈es.getD r [] then 1 else 0:=by
 unfold inc;rw[Qi bag es I];by_cases h:bag.getD e 0∈es.getD r [];rw[if_pos h,if_pos (vz.2 ⟨K,decide_eq_true h⟩)];rw[if_neg h,if_neg (λM=>h (of_decide_eq_true (vz.1 M).2))]
theorem Vi(h:x9 bag es=true){v:Nat}(hv:v<bag.length):∃e,e<es.length/\bag.getD v 0∈es.getD e []:=by
 unfold x9 at h;have:=aT.1 h (bag.getD v 0) (xz hv);obtain⟨x,K,M⟩:=List.any_eq_true.1 this;obtain⟨e,I,rfl⟩:=List.mem_iff_getElem.1 K;refine⟨e,I,?_⟩;rw[gD (l:=es),gE I];exact of_decide_eq_true M
theorem uA(h:qV l=true)(hi:i<l.length):0<=l.getD i 0/\l.getD i 0<6/\(i=0∨l.getD (i-1) 0<l.getD i 0):=by
 have:=aT.1 h i (List.mem_range.2 hi);unfold xD at this;simp only[Bool.and_eq_true,Bool.or_eq_true,decide_eq_true_eq]at this;exact⟨this.1.1,this.1.2,this.2⟩
theorem qAz{l:LI}(h:qV l=true):∀i,i<l.length->(i:Int)<=l.getD i 0
 |0,hi=>by have:=(uA h hi).1;simpa using this
 |i+1,hi=>by
  have K:=qAz h i Oo;rcases (uA h hi).2.2 with I|I;omega;rw[show i+1-1=i by omega]at I;omega
theorem kZ(h:qV l=true):l.length<=6:=by
 rcases Nat.lt_or_ge 6 l.length with I|I;have K:=qAz h 6 I;have M:=(uA h I).2.1;omega;exact I
theorem vJ(h:zX es=true):es.length<=7:=by
 unfold zX at h;simp only[Bool.and_eq_true,decide_eq_true_eq]at h;exact h.1
theorem qAP(w:World)(vb ve:Value)(bag:LI)(es:LL)(hb:IS w vb bag)(h:ISS w ve es)(e0:bag.length<=1099511627776)(hl:qT es)(h1:qV bag=true)(h2:zX es=true)(h3:x9 bag es=true):
 Cl 100 #[vb,ve] w λe w'=>∃x y vW vD,e=.returned (.agg #[.bool true,ai (Cov.sm es.length x).num,ai (Cov.sm es.length x).den,vW,vD])/\zS bag.length es.length (inc (qQ bag es)) x/\Xa es.length bag.length (inc (yp bag es)) y/\
  Parts es.length x/\Parts bag.length y/\w'.ownsRow w.1.size 36 2 vW (prs es.length x).length (rcs (prs es.length x))/\w'.ownsRow w.1.size 36 2 vD (prs bag.length y).length (rcs (prs bag.length y))/\(∀g,vW.ownBlock=some g->vD.ownBlock≠some g)/\Bl w w':=by
 have e9:=kZ h1;have c8:=vJ h2;have e1:=yW bag es;have e2:=qCh bag es;have SC:Hh (∀W vr,RowsAt W vr (qQ bag es)->Cl 121 #[.agg #[ai es.length,vr,.bool true]] W λe w'=>∃g x,e=.returned (.slice (some (az g 0)) es.length es.length)/\FrAt w' g es.length x/\zS bag.length es.length (inc (qQ bag es)) x/\Parts es.length x/\W.1.size<=g/\g<w'.1.size/\Bl W w'):=ay (λW vr hr=>by
  have:=qAq W es.length vr (qQ bag es) c8 Oo hr (λi hi=>by rw[uw bag es Oo];have:=Yp (λk=>decide (bag.getD i 0∈es.getD k [])) es.length;omega) (λi hi j hj=>by rw[uw bag es Oo]at hj;exact(vz.1 hj).1) (λr hr=>by
   obtain⟨e,he,hm⟩:=Vi h3 (v:=r) Oo;exact⟨e,he,by rw[qCi Oo he,if_pos hm]⟩)
  rw[e1]at this;exact this)
 have SP:Hh (∀W vr,RowsAt W vr (yp bag es)->Cl 121 #[.agg #[ai bag.length,vr,.bool false]] W λe w'=>∃g x,e=.returned (.slice (some (az g 0)) bag.length bag.length)/\FrAt w' g bag.length x/\Xa es.length bag.length (inc (yp bag es)) x/\Parts bag.length x/\W.1.size<=g/\g<w'.1.size/\Bl W w'):=ay (λW vr hr=>by
  have:=qCR W bag.length vr (yp bag es) e9 Oo hr (λi hi=>by rw[Qi bag es Oo];have:=Yp (λk=>decide (bag.getD k 0∈es.getD i [])) bag.length;omega) (λi hi j hj=>by rw[Qi bag es Oo]at hj;exact(vz.1 hj).1) (λe he=>by
   obtain⟨r,hr,hm⟩:=Vi h3 (v:=e) Oo;exact⟨r,Oo,by rw[qDl hr Oo,if_pos hm]⟩)
  rw[e2]at this;exact this)
 have CP:Hh (∀W,IS W vb bag->ISS W ve es->Cl 122 #[vb,ve] W λe w'=>∃vr,e=.returned (.agg #[ai es.length,vr,.bool true])/\RowsAt w' vr (qQ bag es)/\Bl W w'):=ay (λW M O=>(Qw W vb ve bag es M O Oo hl).mono (by
  rintro e w' ⟨vr,vs,rfl,hp,c9⟩;rw[qAp]at hp;exact⟨vr,rfl,qBT hp,c9⟩))
 have PP:Hh (∀W,IS W vb bag->ISS W ve es->Cl 123 #[vb,ve] W λe w'=>∃vr,e=.returned (.agg #[ai bag.length,vr,.bool false])/\RowsAt w' vr (yp bag es)/\Bl W w'):=ay (λW M O=>(kz W vb ve bag es M O Oo hl Oo).mono (by
  rintro e w' ⟨vr,vs,rfl,hp,c9⟩;rw[qCQ]at hp;exact⟨vr,rfl,qBT hp,c9⟩))
 have HB:=ay hb;have HE:=ay h;obtain⟨a,cap,rfl,-⟩:=hb;obtain⟨a',I,rfl,-⟩:=h;have hA:Bl w (w.alloc (.cells #[.bool false,ai 0,ai 0,sn,sn] 131)):=(bJ _ _).alloc (nR _) _;have hs:w.1.size<(w.alloc (.cells #[.bool false,ai 0,ai 0,sn,sn] 131)).1.size:=Ss;have hc:ArrAt (w.alloc (.cells #[.bool false,ai 0,ai 0,sn,sn] 131)) w.1.size 5 (f5 (.bool false) (ai 0) (ai 0) sn sn):=zG w 5 (f5 (.bool false) (ai 0) (ai 0) sn sn) 131;have K1:Hh (∀W,IS W (.slice a bag.length cap) bag->Cl 97 #[.slice a bag.length cap] W λe w'=>e=.returned (.bool true)/\w'=W):=ay (λW M=>by have:=zd W _ bag M e0;rw[h1]at this;exact this);have K2:Hh (∀W,ISS W (.slice a' es.length I) es->Cl 94 #[.slice a' es.length I] W λe w'=>e=.returned (.bool true)/\w'=W):=ay (λW M=>by have:=j9 W _ es M hl;rw[h2]at this;exact this);have K3:Hh (∀W,IS W (.slice a bag.length cap) bag->ISS W (.slice a' es.length I) es->Cl 119 #[.slice a bag.length cap,.slice a' es.length I] W λe w'=>e=.returned (.bool true)/\Bl W w'):=ay (λW M O=>by have:=UF W _ _ bag es M O e0 hl;rw[h3]at this;exact this);clear h1 h2 h3 e1 e2 hl;go_enter Tryz.func100,Tryz.ntmps100;go_upto_region 1 with fail;generalize w.alloc (.cells #[.bool false,ai 0,ai 0,sn,sn] 131)=W at *;go_upto_region 3 with (first|(go_at_call 97;refine(K1.o _ (HB.o.below hA)).mono ?_;rintro e w' ⟨rfl,f7⟩;subst w')|(go_at_call 94;refine(K2.o _ (HE.o.below hA)).mono ?_;rintro e w' ⟨rfl,f7⟩;subst w')|(go_at_call 119;refine(K3.o _ (HB.o.below hA) (HE.o.below hA)).mono ?_;rintro e w9 ⟨rfl,a5⟩));have a6:Bl w w9:=bt hA a5;have e3:=hc.below Oo a5;have e4:w.1.size<w9.1.size:=bN hs a5.size;clear K1 K2 K3 hc a5 hA hs;go_upto_region 4 with (first|(go_at_call 122;refine(CP.o _ (HB.o.below a6) (HE.o.below a6)).mono ?_;rintro e w1 ⟨vr,rfl,U,V⟩)|(go_at_call 121;refine(SC.o _ _ U).mono ?_;rintro e w2 ⟨g,x,rfl,hF,hX,hP,d5,d6,a3⟩)|(go_at_call 120;refine(V0 _ _ _ x c8 (qBU hF) hP).mono ?_;rintro e w3 ⟨vW,rfl,d7,a7⟩));have a8:Bl w w3:=bt (bt (bt a6 V) a3) a7;have e5:=((e3.below Oo V).below Oo a3).below Oo a7;have e6:w.1.size+1<=w2.1.size:=bM e4 (bt V a3).size;have e7:w9.1.size<=w3.1.size:=(bt (bt V a3) a7).size;have HX:=ay hX;have HP:=ay hP;clear CP SC U hF hX hP d5 d6 V a3 a7 a6 e3;go_upto_region 5 with (first|(go_at_call 123;refine(PP.o _ (HB.o.below a8) (HE.o.below a8)).mono ?_;rintro e w4 ⟨vr,rfl,U,a9⟩)|(go_at_call 121;refine(SP.o _ _ U).mono ?_;rintro e w5 ⟨g,y,rfl,hF,hY,hQ,d5,d6,b0⟩)|(go_at_call 120;refine(V0 _ _ _ y Oo (qBU hF) hQ).mono ?_;rintro e w6 ⟨vD,rfl,d8,b8⟩));have b1:Bl w3 w6:=bt (bt a9 b0) b8;have f8:Bl w w6:=bt a8 b1;have f9:=e5.below Oo b1;have b9:=qB d7 b1;have e8:∀q,vW.ownBlock=some q->vD.ownBlock≠some q:=λq h1 h2=>by
  have l1:=(d7.lt q h1).2;have l2:=(d8.lt q h2).1;have l3:=(bt a9 b0).size;omega
 have K:=qF b9 e6;have a4:=qF (B':=w.1.size+1) d8 (bM (bM e4 e7) (bt a9 b0).size);have HY:=ay hY;have HQ:=ay hQ;have g4:=ay e8;clear PP SP U hF hY hQ d5 d6 a9 b0 b8 a8 e5 d7 d8 b1 b9 e8;have g5:Hh (∀W,IR W vW (prs es.length x)->Cl 124 #[vW] W λe w'=>e=.returned (.agg #[ai (Cov.sm es.length x).num,ai (Cov.sm es.length x).den])/\Bl W w'):=ay (λW M=>qEn W vW es.length x c8 M HP.o);have g6:=ay (Qj K);obtain⟨aW,cW,eW,-⟩:=Qj K;obtain⟨aD,cD,eD,-⟩:=Qj a4;have g7:=ay K;have g8:=ay a4;clear K a4;subst eW eD;go_wp2_with (first|(go_at_call 124;refine(g5.o _ g6.o).mono ?_;rintro e w7 ⟨rfl,b7⟩;have d9:=f9.below Oo b7;obtain⟨c0,c1,c2,c3,c4⟩:=d9.five;obtain⟨d0,d1,d2,d3,d4⟩:=d9.frees));have hz:=d9.five_set (.bool true) (ai (Cov.sm es.length x).num) (ai (Cov.sm es.length x).den) (.slice aW (prs es.length x).length cW) (.slice aD (prs bag.length y).length cD);obtain⟨r0,r1,r2,r3,r4⟩:=hz.five;have g9:Bl w w7:=bt f8 b7;have c7:∀(v:Value) n xs,w7.ownsRow (w.1.size+1) 36 2 v n xs->(((((w7.setCell (az w.1.size 0) (.bool true)).setCell (az w.1.size 1) (ai (Cov.sm es.length x).num)).setCell (az w.1.size 2) (ai (Cov.sm es.length x).den)).setCell (az w.1.size 3) (.slice aW (prs es.length x).length cW)).setCell (az w.1.size 4) (.slice aD (prs bag.length y).length cD)).ownsRow w.1.size 36 2 v n xs:=λv n xs hv=>qF (qC hv (λg hg=>by
  have:=(hv.lt g hg).1;rw[bD _ _ _ _ (by show g≠w.1.size;omega),bD _ _ _ _ (by show g≠w.1.size;omega),bD _ _ _ _ (by show g≠w.1.size;omega),bD _ _ _ _ (by show g≠w.1.size;omega),bD _ _ _ _ (by show g≠w.1.size;omega)])) Oo
 refine bodyPost_ret (v:=.agg #[.bool true,ai (Cov.sm es.length x).num,ai (Cov.sm es.length x).den,.slice aW (prs es.length x).length cW,.slice aD (prs bag.length y).length cD]) (by simp[results,Tryz.results100,go_sem,r0,r1,r2,r3,r4]) rfl ⟨x,y,_,_,rfl,HX.o,HY.o,HP.o,HQ.o,c7 _ _ _ (qB g7.o b7),c7 _ _ _ (qB g8.o b7),g4.o,?_⟩;exact((((g9.setCell (nR _) _).setCell (nR _) _).setCell (nR _) _).setCell (nR _) _).setCell (nR _) _
theorem ZE{p:Rat}(I:Sm B p)(hq:Sm C q)(h:B*C<=4500000000000000000):
 (-4500000000000000000<=p.num*(q.den:Int)/\p.num*(q.den:Int)<=4500000000000000000)/\(-4500000000000000000<=q.num*(p.den:Int)/\q.num*(p.den:Int)<=4500000000000000000)/\(-4500000000000000000<=(p.den:Int)*(q.den:Int)/\(p.den:Int)*(q.den:Int)<=4500000000000000000):=by
 have K:=zv I.1 (show((q.den:Nat):Int).natAbs<=C by rw[zP];exact hq.2) h;have M:=zv (a:=q.num) (b:=(p.den:Int)) (B:=C) (C:=B) hq.1 (by rw[zP];exact I.2) (by rw[Nat.mul_comm];exact h);have O:=zv (a:=(p.den:Int)) (b:=(q.den:Int)) (B:=B) (C:=C) (by rw[zP];exact I.2) (by rw[zP];exact hq.2) h;exact⟨K,M,O⟩
theorem qDV(p q:Rat)(w:World)(U:Sm B p)(hq:Sm C q)(h:B*C<=4500000000000000000):
 Cl 165 #[.agg #[ai (p).num,ai (p).den],.agg #[ai (q).num,ai (q).den]] w λe w'=>e=.returned (.agg #[ai (p+q).num,ai (p+q).den])/\Bl w w':=by
 obtain⟨K,M,O⟩:=ZE U hq h;have I:(p.den:Int)*(q.den:Int)≠0:=Int.mul_ne_zero (by have:=p.den_nz;omega) (by have:=q.den_nz;omega);have:=qAd p.num p.den q.num q.den w K.1 K.2 M.1 M.2 O.1 O.2 I;rw[uR (p.num*q.den+q.num*p.den) (p.den*q.den) I (p+q) (by
  rw[<-Rat.divInt_add_divInt _ _ (by have:=p.den_nz;omega) (by have:=q.den_nz;omega),Rat.num_divInt_den,Rat.num_divInt_den])]at this
 exact this
theorem qF6(p q:Rat)(w:World)(U:Sm B p)(hq:Sm C q)(h:B*C<=4500000000000000000):
 Cl 204 #[.agg #[ai (p).num,ai (p).den],.agg #[ai (q).num,ai (q).den]] w λe w'=>e=.returned (.agg #[ai (p-q).num,ai (p-q).den])/\Bl w w':=by
 obtain⟨K,M,O⟩:=ZE U hq h;have I:(p.den:Int)*(q.den:Int)≠0:=Int.mul_ne_zero (by have:=p.den_nz;omega) (by have:=q.den_nz;omega);have:=J6 p.num p.den q.num q.den w K.1 K.2 M.1 M.2 O.1 O.2 I;rw[uR (p.num*q.den-q.num*p.den) (p.den*q.den) I (p-q) (by
  rw[<-Rat.divInt_sub_divInt _ _ (by have:=p.den_nz;omega) (by have:=q.den_nz;omega),Rat.num_divInt_den,Rat.num_divInt_den])]at this
 exact this
theorem qF7(p q:Rat)(w:World)(K:Sm B p)(hq:Sm C q)(h:B*C<=4500000000000000000):
 Cl 205 #[.agg #[ai (p).num,ai (p).den],.agg #[ai (q).num,ai (q).den]] w λe w'=>e=.returned (.agg #[ai (p*q).num,ai (p*q).den])/\Bl w w':=by
 obtain⟨U,V,M⟩:=ZE K hq h;have I:(p.den:Int)*(q.den:Int)≠0:=Int.mul_ne_zero (by have:=p.den_nz;omega) (by have:=q.den_nz;omega);have O:=zv K.1 hq.1 h;have:=J7 p.num p.den q.num q.den w O.1 O.2 M.1 M.2 I;rw[uR (p.num*q.num) (p.den*q.den) I (p*q) (by
  rw[<-Rat.divInt_mul_divInt,Rat.num_divInt_den,Rat.num_divInt_den])]at this
 exact this
theorem qDW(p q:Rat)(w:World)(U:Sm B p)(hq:Sm C q)(h:B*C<=4500000000000000000)(K:q≠0):
 Cl 203 #[.agg #[ai (p).num,ai (p).den],.agg #[ai (q).num,ai (q).den]] w λe w'=>e=.returned (.agg #[ai (p / q).num,ai (p / q).den])/\Bl w w':=by
 obtain⟨M,V,h3⟩:=ZE U hq h;have hn:=Qd K;have I:(p.den:Int)*q.num≠0:=Int.mul_ne_zero (by have:=p.den_nz;omega) hn;have O:-4500000000000000000<=(p.den:Int)*q.num/\(p.den:Int)*q.num<=4500000000000000000:=by rw[Int.mul_comm];exact V
 have:=qAf p.num p.den q.num q.den w M.1 M.2 O.1 O.2 I;rw[uR (p.num*q.den) (p.den*q.num) I (p / q) (by
  rw[<-Rat.divInt_mul_divInt,Rat.num_divInt_den,<-Rat.inv_divInt,Rat.num_divInt_den,Rat.div_def])]at this
 exact this
theorem jV(p q:Rat)(w:World)(M:Sm B p)(hq:Sm C q)(h:B*C<=4500000000000000000):
 Cl 118 #[.agg #[ai (p).num,ai (p).den],.agg #[ai (q).num,ai (q).den]] w λe w'=>e=.returned (.bool (decide (p<q)))/\Bl w w':=by
 obtain⟨I,K,O⟩:=ZE M hq h;have:=qAg p.num p.den q.num q.den w I.1 I.2 K.1 K.2;rw[show decide (p.num*(q.den:Int)<q.num*(p.den:Int))=decide (p<q) from by
  rw[decide_eq_decide];exact Rat.lt_iff p q|>.symm]at this
 exact this
structure Dem where
 pl:List Nat
 up:Bool
 bd:Int
def yw:Dem:=⟨[],false,0⟩
def Dem.dm(d:Dem):Cov.Dm:=⟨λi=>if i∈d.pl then 1 else 0,d.up,((d.bd:Int):Rat)⟩
structure zj(n:Nat)(d:Dem):Prop where
 nd:d.pl.Nodup
 lt:∀i∈d.pl,i<n
 len:d.pl.length<=7
 bd:d.bd=0∨d.bd=1
def lsum(l:List Nat)(x:Nat->Rat):Nat->Rat
 |0=>0
 |k+1=>lsum l x k+x (l.getD k 0)
theorem uB(l:List Nat)(k:Nat)(h:k<l.length)(i:Nat):i∈l.take (k+1)↔i∈l.take k∨i=l.getD k 0:=by
 rw[tA,gE h,gD,gE h,List.mem_append];simp only[Option.toList_some,List.mem_singleton,Option.getD_some]
theorem qA2{l:List Nat}{n:Nat}(x:Nat->Rat)(hn:l.Nodup)(hl:∀i∈l,i<n):∀k,k<=l.length->lsum l x k=Cov.sm n (λi=>(if i∈l.take k then 1 else 0)*x i)
 |0,_=>by
  symm;exact Cov.sm_zero (λi _=>Ss)
 |k+1,hk=>by
  have I:k<l.length:=Oo;have hm:l.getD k 0∈l:=by
   rw[gD,gE I];exact gM _
  have O:l.getD k 0∉l.take k:=by
   intro h;obtain⟨j,hj,e⟩:=List.mem_iff_getElem.1 h;rw[bW]at hj;rw[List.getElem_take,gD,gE I]at e;simp only[Option.getD_some]at e;exact(List.pairwise_iff_getElem.1 hn) j k Oo I Oo e
  show lsum l x k+x (l.getD k 0)=_;rw[qA2 x hn hl k Oo];have e1:x (l.getD k 0)=Cov.sm n (λi=>(if i=l.getD k 0 then 1 else 0)*x i):=by
   rw[Cov.sm_single (hl _ hm) (λi _ U=>by rw[if_neg U];grind),if_pos rfl];grind
  rw[e1,<-Cov.sm_add];refine Cov.sm_congr (λi _=>?_);by_cases K:i∈l.take k;have M:i≠l.getD k 0:=λe=>O (e ▸ K);rw[if_pos K,if_neg M,if_pos ((uB l k I i).2 (Or.inl K))];grind;by_cases M:i=l.getD k 0;rw[if_neg K,if_pos M,if_pos ((uB l k I i).2 (Or.inr M))];grind;rw[if_neg K,if_neg M,if_neg (λh=>by rcases (uB l k I i).1 h with V|V;exact K V;exact M V)];grind
theorem qFC{d:Dem}(x:Nat->Rat)(h:zj n d):lsum d.pl x d.pl.length=d.dm.at n x:=by
 rw[qA2 x h.nd h.lt _ (nR _),tL];rfl
theorem Xv{n:Nat}{x:Nat->Rat}{l:List Nat}{D:Int}(hl:∀i∈l,i<n)(I:∀j,j<n->Cov.Whole 5040 (x j*((D:Int):Rat))):∀k,k<=l.length->Cov.Whole (k*5040) (lsum l x k*((D:Int):Rat))
 |0,_=>⟨0,by show(0:Rat)*_=_;grind,Ss⟩
 |k+1,hk=>by
  have K:l.getD k 0∈l:=by
   rw[gD,gE Oo];exact gM _
  have:=(Xv hl I k Oo).add (I _ (hl _ K));show Cov.Whole ((k+1)*5040) ((lsum l x k+x (l.getD k 0))*_);rw[show(lsum l x k+x (l.getD k 0))*((D:Int):Rat)=lsum l x k*((D:Int):Rat)+x (l.getD k 0)*((D:Int):Rat)by grind,show(k+1)*5040=k*5040+5040 by omega];exact this
theorem Parts.lsum(h:Parts n x){d:Dem}(I:zj n d)(K:k<=d.pl.length):Sm 36000 (lsum d.pl x k):=by
 obtain⟨D,M,U,O⟩:=h;have hl:=I.len;refine zV M Oo (Xv I.lt O k K) ?_;have:k*5040<=7*5040:=Nat.mul_le_mul Oo (nR _);omega
def kd(n:Nat)(d:Dem)(x:Nat->Rat):Bool:=if d.up then !decide (d.dm.b<d.dm.at n x) else !decide (d.dm.at n x<d.dm.b)
theorem JF{d:Dem}:kd n d x=true↔d.dm.meets n x:=by
 unfold kd Cov.Dm.meets;cases h:d.up
 rw[show d.dm.up=false from h];simp only[Bool.false_eq_true,if_false,Bool.not_eq_true',decide_eq_false_iff_not];exact Rat.not_lt;rw[show d.dm.up=true from h];simp only[if_true,Bool.not_eq_true',decide_eq_false_iff_not];exact Rat.not_lt
end Go.Proofs.YtcnfapnfmnolbaaGreat
