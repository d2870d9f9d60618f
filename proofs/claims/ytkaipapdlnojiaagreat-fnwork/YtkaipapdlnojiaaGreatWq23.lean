import Derived.Test.YtkaipapdlnojiaaGreatWq21
import Derived.Test.YtkaipapdlnojiaaGreatWq22
set_option maxHeartbeats 40000000
set_option maxRecDepth 1000000
namespace Go.Proofs.YtkaipapdlnojiaaGreat
open Go.RowKit
variable {x:Int}{es:List (List Int)}{bag e o s:List Int}{xs:List Value}{k n p v:Nat}
theorem qDW{j:Nat}(I:j < es.length):xC (es.take (j+1)) x=(xC (es.take j) x||decide (x∈es.getD j [])):=by
 unfold xC;rw[tA,bC I,List.any_append,gD,bC I];simp
theorem qAG{k:Int}:xw k es=(decide (0<=k)&&decide (k<=6)&&decide (es.length<=7)&&es.all (z6 k)&&(List.range k.toNat).all λv=>xC es (v:Int)):=by
 unfold xw qj;by_cases I:k<=6
 case neg=>rw[decide_eq_false I];simp
 have:es.all (z6 k)=(es.all qL&&es.all (uf k)):=by
  rw[show z6 k=λl=>qL l&&uf k l from funext λl=>qDV I l];induction es with
  |nil=>rfl
  |cons e es ih=>
   simp only[List.all_cons,ih];cases qL e <;> cases uf k e <;> simp
 rw[this];cases decide (0<=k) <;> cases decide (k<=6) <;> cases decide (es.length<=7) <;> cases es.all qL <;> cases es.all (uf k) <;> rfl
theorem XG(w:World)(ve:Value)(k:Int)(es:List (List Int))(h:ISS w ve es)(hl:zS es):
 Cl 72 #[.int .i64 k,ve] w λe w'=>e=.returned (.bool (xw k es))/\w'=w:=by
 obtain⟨a,cap,rfl,hc⟩:=h;obtain⟨c9,a5⟩:=hl;obtain⟨res,M⟩:∃r,r=xw k es:=⟨_,rfl⟩;rw[<-M];rw[qAG]at M;have U:=hid M;have HC:=hid hc;have HL:=hid a5;clear hc a5 M;by_cases V:0<=k
 case neg=>
  have hf:res=false:=by rw[U.out,decide_eq_false V];simp
  subst hf;generalize es.length=n at *;go_enter Tryz.func72,Tryz.ntmps72
  go_wp2_with fail
  refine(jV _ _ _ _ Oo).mono ?_;rintro e w1 ⟨rfl,O⟩;subst w1;go_wp2_with fail
  go_ret;exact⟨rfl,rfl⟩
 by_cases a2:k<=6
 case neg=>
  have hf:res=false:=by rw[U.out,decide_eq_false a2];simp
  subst hf;generalize es.length=n at *;go_enter Tryz.func72,Tryz.ntmps72
  go_wp2_with fail
  refine(jY _ _ _ _ Oo Oo).mono ?_;rintro e w1 ⟨rfl,O⟩;subst w1;go_wp2_with fail
  go_ret;exact⟨rfl,rfl⟩
 by_cases h7:es.length<=7
 case neg=>
  have hf:res=false:=by rw[U.out,decide_eq_false h7];simp
  subst hf;have i1:(7:Int) < (es.length:Int):=Oo;generalize es.length=n at *;go_enter Tryz.func72,Tryz.ntmps72
  go_wp2_with fail
  refine(zn _ _ _ _ Oo Oo).mono ?_;rintro e w1 ⟨rfl,O⟩;subst w1;go_wp2_with fail
  go_ret;exact⟨rfl,rfl⟩
 rw[decide_eq_true V,decide_eq_true a2,decide_eq_true h7]at U;simp only[Bool.true_and]at U
 have a4:Hid (∀j,j < es.length->z6 k (es.getD j [])=false->res=false):=hid λj hj e=>by
  rw[U.out,yB (z6 k) [] es j hj e];simp
 have a6:Hid (∀v,v < k.toNat->xC es (v:Int)=false->res=false):=hid λv hv e=>by
  rw[U.out,yk hv e];simp
 have HT:Hid ((∀j,j < es.length->z6 k (es.getD j [])=true)->(∀v,v < k.toNat->xC es (v:Int)=true)->res=true):=hid λh1 h2=>by
  rw[U.out,kH (z6 k) [] es h1,yC h2];rfl
 have HA:Hid (∀x j,j < es.length->xC (es.take (j+1)) x=(xC (es.take j) x||decide (x∈es.getD j []))):=hid λx j hj=>qDW hj;have d0:Hid (∀x,xC (es.take 0) x=false):=hid λx=>rfl;have a7:Hid (∀x,xC (es.take es.length) x=xC es x):=hid λx=>Ss;clear U;have d7:¬((7:Int) < (es.length:Int)):=Oo;obtain⟨n,hn⟩:∃n,n=es.length:=⟨_,rfl⟩;rw[<-hn]at a4 HT c9 HC HA a7 d7 ⊢;clear hn h7;go_enter Tryz.func72,Tryz.ntmps72
 go_wp2_with fail
 refine(zn _ _ _ _ Oo Oo).mono ?_;rintro e w1 ⟨rfl,O⟩;subst w1;go_wp2_with fail
 go_loop [21] (λt=>∃j:Nat,j<=n/\t=.int .i64 j/\Hid (∀i,i < j->z6 k (es.getD i [])=true)) (λt=>n - (intOf t).toNat)
 case atStart=>exact⟨0,nZ _,rfl,hid (λi hi=>Oo)⟩
 case round=>
  obtain⟨j,hj,rfl,K⟩:=hrel;by_cases a8:j < n
  ·have i1:(j:Int) < (n:Int):=Oo;rcases HC.out with h0|⟨b,o,rfl,I⟩
   ·omega
   ·obtain⟨u,c1,hu⟩:=I j a8;have HK:=hid (Xu w k V a2 u (es.getD j []) hu (HL.out j));obtain⟨a1,a9,rfl,-⟩:=hu;have fin:=a4.out j a8
    have nxt:z6 k (es.getD j [])=true->Hid (∀i,i < j+1->z6 k (es.getD i [])=true):=λe i hi=>by
     by_cases e2:i=j
     ·rw[e2];exact e
     ·exact K.out i Oo
    clear I K;generalize (es.getD j []).length=m at *;generalize z6 k (es.getD j [])=y at *;cases y
    ·obtain rfl:=fin rfl;clear nxt;go_wp2_with fail
     refine HK.out.mono ?_;rintro e w1 ⟨rfl,O⟩;subst w1;go_wp2_with fail
     go_ret;exact⟨rfl,rfl⟩
    ·have hf:=nxt rfl;clear fin nxt;go_wp2_with fail
     refine HK.out.mono ?_;rintro e w1 ⟨rfl,O⟩;subst w1;go_wp2_with fail
     go_round
     case rel=>exact⟨j+1,Oo,Gg,hf⟩
     case measure=>simp[intOf];omega
  ·obtain rfl:j=n:=Oo;have b0:Hid ((∀v,v < k.toNat->xC es (v:Int)=true)->res=true):=hid (HT.out K.out);have i1:¬((j:Int) < (j:Int)):=Oo;clear K HT a4;obtain⟨q,hq⟩:∃q:Nat,q=k.toNat:=⟨_,rfl⟩;obtain rfl:k=(q:Int):=Oo;rw[<-hq]at b0 a6;clear hq V;have d9:q<=6:=Oo;clear a2;go_wp2_with fail
   go_loop [7] (λt=>∃v:Nat,v<=q/\t=.int .i64 v/\Hid (∀i:Nat,i < v->xC es (i:Int)=true)) (λt=>q - (intOf t).toNat)
   case atStart=>exact⟨0,nZ _,rfl,hid (λi hi=>Oo)⟩
   case round=>
    obtain⟨v,hv,rfl,K⟩:=hrel;by_cases d6:v < q
    ·have i2:(v:Int) < (q:Int):=Oo;have fin:=a6.out v d6
     have nxt:xC es (v:Int)=true->Hid (∀i:Nat,i < v+1->xC es (i:Int)=true):=λe i hi=>by
      by_cases e2:i=v
      ·rw[e2];exact e
      ·exact K.out i Oo
     have d8:=hid (HA.out (v:Int));have b7:=hid (d0.out (v:Int));have a3:=a7.out (v:Int);rw[<-a3]at fin nxt;have b9:=hid fin;have c7:=hid nxt;clear K fin nxt a3;go_wp2_with fail
     go_loop [8,37] (λs t=>∃i:Nat,i<=j/\t=.int .i64 i/\s=.bool (xC (es.take i) (v:Int))) (λ_ t=>j - (intOf t).toNat)
     case atStart=>exact⟨0,nZ _,rfl,by rw[b7.out]⟩
     case round=>
      obtain⟨i,hi,rfl,rfl⟩:=hrel;by_cases c8:i < j
      ·have i3:(i:Int) < (j:Int):=Oo;rcases HC.out with h0|⟨b,o,rfl,I⟩
       ·omega
       ·obtain⟨u,c1,hu⟩:=I i c8;have HK:=hid (qU w u (es.getD i []) (v:Int) hu (HL.out i));obtain⟨a1,a9,rfl,-⟩:=hu;have hs:=d8.out i c8;clear I;generalize (es.getD i []).length=m at *;generalize decide ((v:Int)∈es.getD i [])=f at *;generalize xC (es.take i) (v:Int)=s at *;cases s
        ·go_wp2_with fail
         refine HK.out.mono ?_;rintro e w1 ⟨rfl,O⟩;subst w1;go_wp2_with fail
         go_round
         case rel=>exact⟨i+1,Oo,Gg,by rw[hs];rfl⟩
         case measure=>simp[intOf];omega
        ·go_wp2_with fail
         go_round
         case rel=>exact⟨i+1,Oo,Gg,by rw[hs];rfl⟩
         case measure=>simp[intOf];omega
      ·obtain rfl:i=j:=Oo;have i3:¬((i:Int) < (i:Int)):=Oo;have fin:=b9.out;have nxt:=c7.out;clear b9 c7;generalize xC (es.take i) (v:Int)=s at *;cases s
       ·obtain rfl:=fin rfl;clear nxt;go_wp2_with fail
        go_ret;exact⟨rfl,rfl⟩
       ·have hf:=nxt rfl;clear fin nxt;go_wp2_with fail
        go_round
        case rel=>exact⟨v+1,Oo,Gg,hf⟩
        case measure=>simp[intOf];omega
    ·obtain rfl:v=q:=Oo;obtain rfl:=b0.out K.out;have i2:¬((v:Int) < (v:Int)):=Oo;clear K;go_wp2_with fail
     go_ret;exact⟨rfl,rfl⟩
theorem kP{w:World}{B s:Nat}{e:TypeId}{v:Value}(h:w.ownsRow B e s v n xs):∃a cap,v=.slice a n cap:=by
 rcases h.2 with ⟨rfl,I⟩|⟨g,cap,cur,rfl,_⟩
 ·exact⟨none,0,by rw[I]⟩
 ·exact⟨_,cap,rfl⟩
structure RL(W:World)(B:Nat)(v:Value)(vs:List Value)(ls:List (List Int)):Prop where
 own:W.ownsRow B 25 1 v ls.length vs
 len:vs.length=ls.length
 each:∀i,i < ls.length->W.ownsRow B 3 1 (vs.getD i undef) (ls.getD i []).length ((ls.getD i []).map (Value.int .i64))
section
variable {W W' w3:World} {B:Nat} {v v' u:Value} {vs:List Value} {ls:List (List Int)} {l:List Int} {o:Obj}
theorem RL.below(h:RL W B v vs ls)(hb:Bl W W'):RL W' B v vs ls:=⟨qB h.own hb,h.len,λi hi=>qB (h.each i hi) hb⟩
theorem RL.nil(W:World):RL (W.alloc (.cells #[] 25)) W.heap.size (.slice (some ⟨W.heap.size,0,none⟩) 0 0) [] []:=⟨oM W #[] 0 (bK _) Dd rfl,rfl,λi hi=>by simp at hi⟩
theorem RL.base{B':Nat}(h:RL W B v vs ls)(hB:B'<=B):RL W B' v vs ls:=⟨qF h.own hB,h.len,λi hi=>qF (h.each i hi) hB⟩
theorem RL.step(h:RL W B v vs ls)(O:W.ownsRow B 3 1 u l.length (l.map (Value.int .i64)))(I:w3.ownsRow B 25 1 v' (ls.length+1) (vs++[u]))(U:(W.alloc o).grownBy w3 v.ownBlock):RL w3 B v' (vs++[u]) (ls++[l]):=by
 have hint:∀{x:Value} {k:Nat} {xs:List Value},W.ownsRow B 3 1 x k xs->w3.ownsRow B 3 1 x k xs:=λM=>
  qA M (λg K=>qV U ((M.lt g K).2) (λe=>own_ne h.own (qO M K) Dd e))
 refine⟨by rw[lA];exact I,by rw[lA,lA,h.len];rfl,λi hi=>?_⟩;rw[lA,lS]at hi;by_cases e:i < ls.length
 ·have:=hint (h.each i e);rw[gD,aL (by rw[h.len];exact e),gD (l:=ls++[l]),aL e,<-gD,<-gD];exact this
 ·have V:(vs++[u]).getD i undef=u:=by rw[gD,bX (by rw[h.len];omega),show i - vs.length=0 by rw[h.len];omega];rfl
  have e2:(ls++[l]).getD i []=l:=by rw[gD,bX Oo,show i - ls.length=0 by omega];rfl
  rw[V,e2];exact hint O
theorem RL.other(h:RL W B v vs ls)(hv:W.ownsRow B 53 3 u n xs)(K:(W.alloc o).grownBy w3 u.ownBlock):RL w3 B v vs ls:=
 ⟨qA h.own (λg I=>qV K ((h.own.lt g I).2) (λe=>own_ne hv (qO h.own I) Dd e)),h.len,λi hi=>
  qA (h.each i hi) (λg I=>qV K (((h.each i hi).lt g I).2) (λe=>own_ne hv (qO (h.each i hi) I) Dd e))⟩
theorem DL.far{ps:List (Value×Dem)}(h:DL W B u ps)(hv:W.ownsRow B 25 1 v n xs)(K:(W.alloc o).grownBy w3 v.ownBlock):DL w3 B u ps:=
 ⟨qA h.own (λg I=>qV K ((h.own.lt g I).2) (λe=>own_ne hv (qO h.own I) Dd e)),λq hq=>
  qA (h.each q hq) (λg I=>qV K (((h.each q hq).lt g I).2) (λe=>own_ne hv (qO (h.each q hq) I) Dd e))⟩
theorem RL.get(h:RL W B v vs ls){i:Nat}(hi:i < ls.length):∃g cap,v=.slice (some ⟨g,0,none⟩) ls.length cap/\W.cell? ⟨g,i,none⟩=some (vs.getD i undef)/\IS W (vs.getD i undef) (ls.getD i []):=by
 rcases h.own.2 with ⟨-,O⟩|⟨g,cap,cur,rfl,I,K,U,-,-,M⟩
 ·omega
 ·refine⟨g,cap,rfl,?_,qK (h.each i hi)⟩;have hlen:=h.len;rw[cell_of_row _ _ _ _ _ _ K,gD,bC Oo,Option.getD_some,<-bC (by omega:i < vs.length),<-M,List.getElem?_take_of_lt Oo,Array.getElem?_toList]
theorem RL.sl(h:RL W B v vs ls):∃a cap,v=.slice a ls.length cap:=by
 rcases h.own.2 with ⟨rfl,I⟩|⟨g,cap,cur,rfl,_⟩
 ·exact⟨none,0,by rw[I]⟩
 ·exact⟨_,cap,rfl⟩
structure ZR(W:World)(g:Nat):Prop where
 blk:W.heap[g]?=some (.cells #[.int .i64 0,.int .i64 0] 28 (0,0))
variable {g:Nat}
theorem ZR.typ(h:ZR W g):∃cur,W.heap[g]?=some (.cells cur 28 (0,0)):=⟨_,h.blk⟩
theorem ZR.move(h:ZR W g)(e:W'.heap[g]?=W.heap[g]?):ZR W' g:=⟨e.trans h.blk⟩
theorem ZR.lt(h:ZR W g):g < W.heap.size:=zm h.typ
theorem ZR.below(h:ZR W g)(hb:Bl W W'):ZR W' g:=h.move (hb.block g h.lt)
theorem ZR.alloc(h:ZR W g)(o:Obj):ZR (W.alloc o) g:=h.move (Below.heap_alloc _ _ _ h.lt)
theorem ZR.grow(h:ZR W g)(I:W.ownsRow B 53 3 v n xs)(K:(W.alloc o).grownBy w3 v.ownBlock):ZR w3 g:=h.move (qV K h.lt (own_ne I h.typ Dd))
theorem ZR.grow2(h:ZR W g)(I:W.ownsRow B 25 1 v n xs)(K:(W.alloc o).grownBy w3 v.ownBlock):ZR w3 g:=h.move (qV K h.lt (own_ne I h.typ Dd))
theorem ZR.two(h:ZR W g):Two W g 0 0:=by
 refine⟨?_,?_,?_,?_⟩
 ·rw[cell_of_row _ _ _ _ _ _ h.blk];rfl
 ·rw[cell_of_row _ _ _ _ _ _ h.blk];rfl
 ·unfold World.frozen?;rw[h.blk];simp
 ·unfold World.frozen?;rw[h.blk];simp
end
def za(bag:List Int)(es:List (List Int))(k:Nat):List (List Int):=((List.range k).filter (yl bag es)).map λi=>qM bag (es.getD i [])
theorem qBC(h:yl bag es k=true):za bag es (k+1)=za bag es k++[qM bag (es.getD k [])]:=by
 simp[za,List.range_succ,List.filter_append,h]
theorem Kd(h:yl bag es k=false):za bag es (k+1)=za bag es k:=by
 simp[za,List.range_succ,List.filter_append,h]
theorem qCP(bag:List Int)(es:List (List Int))(k:Nat):(za bag es k).length<=k:=by
 unfold za;rw[lM];exact bQ (List.length_filter_le _ _) Ss
theorem qBD(bag:List Int)(es:List (List Int)):za bag es es.length=zZ bag es:=rfl
def yn(bag:List Int)(es:List (List Int))(i j:Nat):Bool:=decide (0 < (qM bag (es.getD i [])).length)&&(List.range j).all λj=>!kM bag es i j
theorem qBE(i j:Nat):yn bag es i (j+1)=(yn bag es i j&&!kM bag es i j):=by
 unfold yn;rw[List.range_succ,List.all_append];simp[Bool.and_assoc]
theorem JG(bag e:List Int):(qM bag e).length<=e.length:=List.length_filter_le _ _
def vN(k:Int)(o:List Int)(i:Nat):Bool:=decide (0<=o.getD i 0)&&decide (o.getD i 0 < k)&&!decide (o.getD i 0∈o.take i)
def uZ(k:Int)(o:List Int):Bool:=decide ((o.length:Int)=k)&&(List.range o.length).all (vN k o)
def kI(k:Int)(o:List Int):Bool:=decide ((o.length:Int)=k)&&(List.range k.toNat).all λv=>decide ((v:Int)∈o)
def upN(n:Nat):List Int:=(List.range n).map Int.ofNat
theorem Yi(n:Nat):(upN n).Nodup:=by
 unfold upN List.Nodup;rw[List.pairwise_map];refine List.Pairwise.imp ?_ List.nodup_range;intro a b h e;simp only[Int.ofNat_eq_natCast]at e;omega
theorem y7:x∈upN n↔0<=x/\x < (n:Int):=by
 unfold upN;rw[List.mem_map];constructor
 ·rintro⟨a,I,rfl⟩;simp only[Int.ofNat_eq_natCast];have:=List.mem_range.1 I;omega
 ·intro h;exact⟨x.toNat,List.mem_range.2 Oo,by simp only[Int.ofNat_eq_natCast];omega⟩
theorem uI(n:Nat):(upN n).length=n:=by simp[upN]
theorem Yj{k:Int}(h:∀i,i < o.length->vN k o i=true):o.Nodup:=by
 unfold List.Nodup;rw[List.pairwise_iff_getElem];intro i j hi I K e;have:=h j I;unfold vN at this;rw[bA,Bool.not_eq_true',decide_eq_false_iff_not]at this;refine this.2 ?_;have M:o.getD j 0=o[j]:=by rw[gD,bC I];rfl
 rw[M,<-e,List.mem_iff_getElem];exact⟨i,by rw[bZ];omega,by rw[List.getElem_take]⟩
theorem qBz(k:Int)(o:List Int):uZ k o=kI k o:=by
 unfold uZ kI;by_cases hk:(o.length:Int)=k
 case neg=>rw[decide_eq_false hk];rfl
 rw[decide_eq_true hk,Bool.true_and,Bool.true_and];subst hk;rw[show((o.length:Int)).toNat=o.length by omega];cases hb:(List.range o.length).all (vN o.length o)
 ·cases hs:(List.range o.length).all λv=>decide ((v:Int)∈o)
  ·rfl
  ·exfalso;rw[bY]at hs
   have M:∀x∈upN o.length,x∈o:=by
    intro x K;obtain⟨h1,h2⟩:=y7.1 K;have:=hs x.toNat (List.mem_range.2 Oo);rw[dE,show((x.toNat:Nat):Int)=x by omega]at this;exact this
   rw[List.all_eq_false]at hb;obtain⟨i,hi,hb⟩:=hb;have O:i < o.length:=by simpa using hi
   have e1:o.getD i 0=o[i]:=by rw[gD,bC O];rfl
   have key:∀x∈upN o.length,x∈o.eraseIdx i:=by
    intro x K;have a2:=M x K;obtain⟨h1,h2⟩:=y7.1 K;obtain⟨j,hj,V⟩:=gO a2;by_cases U:j=i
    ·subst U;unfold vN at hb;rw[e1,V,decide_eq_true h1,decide_eq_true h2,Bool.true_and,Bool.true_and]at hb;have hm:x∈o.take j:=by simpa using hb
     obtain⟨l,hl,el⟩:=gO hm;rw[bZ]at hl;rw[List.getElem_take]at el;rw[List.mem_eraseIdx_iff_getElem];exact⟨l,Oo,Oo,el⟩
    ·rw[List.mem_eraseIdx_iff_getElem];exact⟨j,hj,U,V⟩
   have:=uB (Yi o.length) key;rw[uI,List.length_eraseIdx_of_lt O]at this;omega
 ·symm;rw[bY]at hb;have I:∀i,i < o.length->vN o.length o i=true:=λi hi=>hb i (by simpa using hi);have a3:=Yj I;refine yC λv hv=>?_;rw[dE];refine Classical.byContradiction λa4=>?_
  have key:∀x∈o,x∈(upN o.length).erase (v:Int):=by
   intro x K;obtain⟨j,hj,V⟩:=zz K;have:=I j hj;unfold vN at this;rw[bA,bA,dE,dE,V]at this;have a5:x≠(v:Int):=λe=>a4 (e ▸ K);exact(List.mem_erase_of_ne a5).2 (y7.2 this.1)
  have:=uB a3 key;rw[List.length_erase_of_mem (y7.2 ⟨Oo,Oo⟩),uI]at this;omega
def jh(s o:List Int):Nat->Nat->Int
 |0,_=>-1
 |f+1,p=>if decide (o.getD p 0∈s) then (p:Int) else jh s o f (p+1)
def qu(s o:List Int)(p:Nat):Int:=jh s o (o.length - p) p
theorem Z4(s o:List Int)(h:o.length<=p):qu s o p=-1:=by
 unfold qu;rw[show o.length - p=0 by omega];rfl
theorem qAk(h:p < o.length)(I:o.getD p 0∈s):qu s o p=(p:Int):=by
 unfold qu;obtain⟨f,K⟩:∃f,o.length - p=f+1:=⟨o.length - p - 1,Oo⟩;rw[K];show(if decide (o.getD p 0∈s) then (p:Int) else _)=_;rw[if_pos (by simpa using I)]
theorem Jy(h:p < o.length)(I:¬o.getD p 0∈s):qu s o p=qu s o (p+1):=by
 unfold qu;obtain⟨f,K⟩:∃f,o.length - p=f+1:=⟨o.length - p - 1,Oo⟩;rw[K,show o.length - (p+1)=f by omega];show(if decide (o.getD p 0∈s) then (p:Int) else _)=_;rw[if_neg (by simpa using I)]
def zi(es:List (List Int))(a b:Nat):Bool:=es.any λe=>decide ((a:Int)∈e)&&decide ((b:Int)∈e)
theorem UX(es:List (List Int))(a b:Nat):zi es a b=zi es b a:=by
 unfold zi;congr 1;funext e;rw[Bool.and_comm]
def oN(o:List Int)(i:Nat):Nat:=(o.getD i 0).toNat
def zw(es:List (List Int))(o:List Int)(i:Nat):List Int:=((List.range 6).filter λb=>Elim.gAt (zi es) (oN o) i (oN o i) b).map Int.ofNat
theorem Z3(w:World)(v:Value)(o:List Int)(k:Int)(h:IS w v o)(hl:o.length<=1099511627776):
 Cl 73 #[.int .i64 k,v] w λe w'=>e=.returned (.bool (kI k o))/\w'=w:=by
 have O:=hid h;obtain⟨a,cap,rfl,-⟩:=h;obtain⟨res,I⟩:∃r,r=kI k o:=⟨_,rfl⟩;rw[<-I];have M:=hid I;clear I;by_cases hq:(o.length:Int)=k
 case neg=>
  have U:res=false:=by rw[M.out];unfold kI;rw[decide_eq_false hq];rfl
  subst U;have i1:((o.length:Int) != k)=true:=by simpa using hq
  clear O M;generalize o.length=n at *;go_enter Tryz.func73,Tryz.ntmps73
  go_wp2_with fail
  go_ret;exact⟨rfl,rfl⟩
 subst hq
 have HF:Hid (∀j,j < o.length->decide ((j:Int)∈o)=false->res=false):=hid λj hj e=>by
  rw[M.out];unfold kI;rw[show((o.length:Int)).toNat=o.length by omega,yk hj e];simp
 have HT:Hid ((∀j,j < o.length->decide ((j:Int)∈o)=true)->res=true):=hid λh1=>by
  rw[M.out];unfold kI;rw[decide_eq_true rfl,show((o.length:Int)).toNat=o.length by omega,yC h1];rfl
 have HK:Hid (∀x:Int,Cl 16 #[.slice a o.length cap,.int .i64 x] w λe w'=>e=.returned (.bool (decide (x∈o)))/\w'=w):=hid λx=>qU w _ o x O.out hl;clear M O;have d1:(((o.length:Int)) != (o.length:Int))=false:=Ss;obtain⟨n,hn⟩:∃n,n=o.length:=⟨_,rfl⟩;rw[<-hn]at HF HT hl d1 HK ⊢;clear hn;go_enter Tryz.func73,Tryz.ntmps73
 go_wp2_with fail
 go_loop [5] (λt=>∃j:Nat,j<=n/\t=.int .i64 j/\Hid (∀i,i < j->decide ((i:Int)∈o)=true)) (λt=>n - (intOf t).toNat)
 case atStart=>exact⟨0,nZ _,rfl,hid (λi hi=>Oo)⟩
 case round=>
  obtain⟨j,hj,rfl,K⟩:=hrel;by_cases V:j < n
  ·have i1:(j:Int) < (n:Int):=Oo;have fin:=HF.out j V
   have nxt:decide ((j:Int)∈o)=true->Hid (∀i,i < j+1->decide ((i:Int)∈o)=true):=λe i hi=>by
    by_cases e2:i=j
    ·rw[e2];exact e
    ·exact K.out i Oo
   have KC:=hid (HK.out (j:Int));clear K;generalize decide ((j:Int)∈o)=f at *;cases f
   ·obtain rfl:=fin rfl;clear nxt fin;go_wp2_with fail
    refine KC.out.mono ?_;rintro e w1 ⟨rfl,a2⟩;subst w1;go_wp2_with fail
    go_ret;exact⟨rfl,rfl⟩
   ·have U:=nxt rfl;clear fin nxt;go_wp2_with fail
    refine KC.out.mono ?_;rintro e w1 ⟨rfl,a2⟩;subst w1;go_wp2_with fail
    go_round
    case rel=>exact⟨j+1,Oo,Gg,U⟩
    case measure=>simp[intOf];omega
  ·obtain rfl:j=n:=Oo;obtain rfl:=HT.out K.out;have i1:¬((j:Int) < (j:Int)):=Oo;clear K;go_wp2_with fail
   go_ret;exact⟨rfl,rfl⟩
def plF(x:Int)(o:List Int):Nat->Nat->Int
 |0,_=>-1
 |f+1,p=>if o.getD p 0=x then (p:Int) else plF x o f (p+1)
def plI(x:Int)(o:List Int)(p:Nat):Int:=plF x o (o.length - p) p
theorem qET(x:Int)(o:List Int)(h:o.length<=p):plI x o p=-1:=by
 unfold plI;rw[show o.length - p=0 by omega];rfl
theorem K8(h:p < o.length)(I:o.getD p 0=x):plI x o p=(p:Int):=by
 unfold plI;obtain⟨f,K⟩:∃f,o.length - p=f+1:=⟨o.length - p - 1,Oo⟩;rw[K];show(if o.getD p 0=x then (p:Int) else _)=_;rw[if_pos I]
theorem UW(h:p < o.length)(I:¬o.getD p 0=x):plI x o p=plI x o (p+1):=by
 unfold plI;obtain⟨f,K⟩:∃f,o.length - p=f+1:=⟨o.length - p - 1,Oo⟩;rw[K,show o.length - (p+1)=f by omega];show(if o.getD p 0=x then (p:Int) else _)=_;rw[if_neg I]
theorem qBy{o:List Int}(I:∀i j,i < j->j < o.length->o.getD i 0≠o.getD j 0):∀{f p i:Nat},i < o.length->p<=i->f=i - p->plI (o.getD i 0) o p=(i:Int)
 |0,p,i,hi,hp,hf=>by
  obtain rfl:p=i:=Oo;exact K8 hi rfl
 |f+1,p,i,hi,hp,hf=>by
  rw[UW Oo (I p i Oo hi)];exact qBy I (f:=f) hi Oo Oo
theorem VK(w:World)(v:Value)(o:List Int)(x:Int)(ho:IS w v o)(a3:o.length<=1099511627776):
 Cl 136 #[v,.int .i64 x] w λe w'=>e=.returned (.int .i64 (plI x o 0))/\w'=w:=by
 obtain⟨a,cap,rfl,hc⟩:=ho;obtain⟨res,K⟩:∃r,r=plI x o 0:=⟨_,rfl⟩;rw[<-K];have HR:=hid K;have HC:=hid hc;clear hc K;obtain⟨n,hn⟩:∃n,n=o.length:=⟨_,rfl⟩;have HN:=hid hn;rw[<-hn]at a3 HC ⊢;clear hn;go_enter Tryz.func136,Tryz.ntmps136
 go_wp2_with fail
 go_loop [9] (λt=>∃j:Nat,j<=n/\t=.int .i64 j/\Hid (res=plI x o j)) (λt=>n - (intOf t).toNat)
 case atStart=>exact⟨0,Oo,rfl,HR⟩
 case round=>
  obtain⟨j,hj,rfl,M⟩:=hrel;by_cases a2:j < n
  ·have i1:(j:Int) < (n:Int):=Oo;rcases HC.out with h0|⟨b,of,rfl,O⟩
   ·omega
   ·have c1:=O j a2;have U:o.getD j 0=x->res=(j:Int):=λV=>M.out.trans (K8 (by rw[<-HN.out];exact a2) V);have I:¬o.getD j 0=x->Hid (res=plI x o (j+1)):=λV=>M.out.trans (UW (by rw[<-HN.out];exact a2) V);clear O M;by_cases V:o.getD j 0=x
    ·obtain rfl:=U V;rw[V]at c1;have e1:(x == x)=true:=Ss;clear U I V HR;go_wp2_with fail
     go_ret;exact⟨rfl,rfl⟩
    ·have hf:=I V;have e1:(x == o.getD j 0)=false:=by simpa using λe:x=o.getD j 0=>V e.symm
     clear U I V;generalize o.getD j 0=y at *;go_wp2_with fail
     go_round
     case rel=>exact⟨j+1,Oo,Gg,hf⟩
     case measure=>simp[intOf];omega
  ·have hr:res=-1:=M.out.trans (qET x o (by rw[<-HN.out];omega));subst hr;have i1:¬((j:Int) < (n:Int)):=Oo;clear M HR;go_wp2_with fail
   go_ret;exact⟨rfl,rfl⟩
end Go.Proofs.YtkaipapdlnojiaaGreat
namespace Go.Proofs.YtkaipapdlnojiaaGreat.Bg
open Go.RowKit
variable {x:Int}{es:List (List Int)}{bag e o s:List Int}{xs:List Value}{k n p v:Nat}
def upd(R:Nat->Bool)(x:Nat):Nat->Bool:=λj=>decide (j=x)||R j
def cnt(k:Nat)(R:Nat->Bool):Nat:=((List.range k).filter λj=>!R j).length
theorem ju(k:Nat)(R:Nat->Bool):cnt (k+1) R=cnt k R+(if R k then 0 else 1):=by
 unfold cnt;rw[List.range_succ,List.filter_append,lA];congr 1;cases h:R k <;> simp[h]
theorem qFL(k x:Nat)(R:Nat->Bool):cnt k (upd R x)<=cnt k R:=by
 induction k with
 |zero=>exact bK _
 |succ k ih=>
  rw[ju,ju]
  have:(if upd R x k then 0 else 1)<=(if R k then 0 else 1):=by
   unfold upd;cases R k
   ·simp;split <;> omega
   ·simp
  omega
theorem qFM{x:Nat}{R:Nat->Bool}(K:x < k)(h:R x=false):cnt k (upd R x) < cnt k R:=by
 induction k with
 |zero=>omega
 |succ k ih=>
  rw[ju,ju];by_cases e:x=k
  ·subst e;have I:=qFL x x R;have:upd R x x=true:=by simp[upd]
   rw[this,h];simp;omega
  ·have I:=ih Oo
   have:upd R x k=R k:=by
    unfold upd;rw[decide_eq_false (by omega:¬k=x)];rfl
   rw[this];omega
def E(o:List Int)(i v:Nat):Prop:=∃q,q < i+1/\oN o q=v
def Rch(es:List (List Int))(o:List Int)(i j:Nat):Prop:=j=oN o i∨Elim.Rc (zi es) (E o i) (oN o i) j
structure Inv(k:Nat)(es:List (List Int))(o:List Int)(i:Nat)(R:Nat->Bool):Prop where
 self:R (oN o i)=true
 low:∀j,R j=true->j < k
 rch:∀j,R j=true->Rch es o i j
variable {k:Nat} {es:List (List Int)} {o:List Int} {i:Nat} {R:Nat->Bool}
theorem inv0(h:oN o i < k):Inv k es o i (upd (λ_=>false) (oN o i)):=by
 have e:∀j,upd (λ_=>false) (oN o i) j=true->j=oN o i:=λj I=>by simpa[upd]using I
 exact⟨by simp[upd],λj I=>by rw[e j I];exact h,λj I=>Or.inl (e j I)⟩
theorem Inv.add(h:Inv k es o i R){x:Nat}(hv:R v=true)(V:E o i v)(he:e∈es)(K:(v:Int)∈e)(M:(x:Int)∈e)(hx:x < k):Inv k es o i (upd R x):=by
 refine⟨by simp[upd,h.self],λj O=>?_,λj O=>?_⟩
 ·by_cases I:j=x
  ·rw[I];exact hx
  ·exact h.low j (by simpa[upd,I]using O)
 ·by_cases I:j=x
  ·subst I
   have U:zi es v j=true:=by
    unfold zi;rw[List.any_eq_true];exact⟨e,he,by simp[K,M]⟩
   rcases h.rch v hv with rfl|hr
   ·exact Or.inr (.one U)
   ·exact Or.inr (.more hr V U)
  ·exact h.rch j (by simpa[upd,I]using O)
def Cl(es:List (List Int))(R:Nat->Bool)(v:Nat):Prop:=∀e∈es,(v:Int)∈e->∀x∈e,R x.toNat=true
theorem Inv.all(h:Inv k es o i R)(V:∀v,R v=true->E o i v->Cl es R v){b:Nat}(hb:Rch es o i b):R b=true:=by
 have I:∀v b,R v=true->E o i v->zi es v b=true->R b=true:=λv b K M O=>by
  unfold zi at O;rw[List.any_eq_true]at O;obtain⟨e,he,U⟩:=O;rw[bA,dE,dE]at U;have:=V v K M e he U.1 _ U.2;simpa using this
 rcases hb with rfl|hr
 ·exact h.self
 ·have key:∀a c,Elim.Rc (zi es) (E o i) a c->a=oN o i->R c=true:=λa c r=>r.ind (M:=λa c=>a=oN o i->R c=true) (λ_ _ K e=>by subst e;exact I _ _ h.self ⟨i,Oo,rfl⟩ K) λ_ _ _ ih hE M e=>I _ _ (ih e) hE M
  exact key _ _ hr rfl
theorem plc_congr{p q:Nat->Bool}(h:∀j,j < n->p j=q j):plc p n=plc q n:=by
 unfold plc;congr 1;exact List.filter_congr λx I=>h x (List.mem_range.1 I)
theorem Vv{p:Nat->Bool}{n:Nat}:∀{d:Nat},(∀j,n<=j->p j=false)->plc p (n+d)=plc p n
 |0,_=>rfl
 |d+1,h=>by rw[<-Nat.add_assoc,zy p (n+d) (h _ Oo)];exact Vv h
theorem bag_eq(hk:k<=6)(O:∀j q,j < q->q < o.length->oN o j≠oN o q)(hi:i < o.length)(hs:zi es (oN o i) (oN o i)=true)
 (h:Inv k es o i R) (U:∀v,R v=true->E o i v->Cl es R v) (p:Nat->Bool) (hp:∀v,v < k->(p v=true↔R v=true/\∀j,j < i->oN o j≠v)):plc p k=zw es o i:=by
 have key:∀b,Elim.gAt (zi es) (oN o) i (oN o i) b=true↔(∀j,j < i->oN o j≠b)/\R b=true:=λb=>by
  rw[Elim.bag_iff (UX es) (λj q I K=>O j q I Oo) hs];constructor
  ·rintro⟨I,K⟩;exact⟨I,h.all U K⟩
  ·rintro⟨I,K⟩;exact⟨I,h.rch b K⟩
 show _=plc (λb=>Elim.gAt (zi es) (oN o) i (oN o i) b) 6;obtain⟨d,V⟩:∃d,6=k+d:=⟨6 - k,Oo⟩
 rw[V,Vv (n:=k) (d:=d) λj M=>by
  cases hg:Elim.gAt (zi es) (oN o) i (oN o i) j
  ·rfl
  ·have:=h.low j ((key j).1 hg).2;omega]
 refine plc_congr λj M=>?_;rw[Bool.eq_iff_iff,hp j M,key j];exact And.comm
structure St(k:Nat)(es:List (List Int))(o:List Int)(i:Nat)(R0 R:Nat->Bool)(g:Bool)(P:Prop):Prop where
 inv:Inv k es o i R
 more:∀j,R0 j=true->R j=true
 grew:g=true->cnt k R < cnt k R0
 same:g=false->R=R0/\P
variable {R0:Nat->Bool} {g:Bool} {P Q:Prop}
theorem St.start(h:Inv k es o i R)(I:P):St k es o i R R false P:=⟨h,λ_ K=>K,(λe=>by cases e),λ_=>⟨rfl,I⟩⟩
theorem St.imp(h:St k es o i R0 R g P)(I:(R=R0->P->Q)):St k es o i R0 R g Q:=⟨h.inv,h.more,h.grew,λe=>⟨(h.same e).1,I (h.same e).1 (h.same e).2⟩⟩
theorem St.add(h:St k es o i R0 R g P){x:Nat}(hv:R v=true)(O:E o i v)(U:e∈es)(I:(v:Int)∈e)(K:(x:Int)∈e)(M:x < k)(V:R x=false):St k es o i R0 (upd R x) true Q:=by
 refine⟨h.inv.add hv O U I K M,λj hj=>by simp[upd,h.more j hj],λ_=>?_,λe=>by cases e⟩;have h1:=qFM M V;cases g
 ·rw[<-(h.same rfl).1];exact h1
 ·have:=h.grew rfl;omega
end Go.Proofs.YtkaipapdlnojiaaGreat.Bg
