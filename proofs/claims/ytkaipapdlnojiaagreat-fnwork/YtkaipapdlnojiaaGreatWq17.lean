import Derived.Test.YtkaipapdlnojiaaGreatWq15
import Derived.Test.YtkaipapdlnojiaaGreatWq16
set_option maxHeartbeats 40000000
set_option maxRecDepth 1000000
namespace Go.Proofs.YtkaipapdlnojiaaGreat
open Go.RowKit
variable {es:List (List Int)}{bag l:List Int}{e i j k r u:Nat}{x:Nat->Rat}{v y z:Value}{w:World}
theorem yq(w:World)(u n:Nat)(vr:Value)(L:List (List Nat))(below:Bool)(hu:u<=7)(hL:L.length<=7)(d0:below=true->L.length<=6)(hn:n=if below then u+L.length+L.length else u+L.length)(d6:n<=19)
 (hr:RowsAt w vr L) (hlen:∀i,i < L.length->(L.getD i []).length<=7) (d7:∀i,i < L.length->∀j∈L.getD i [],j < u)
 (A:Nat->Nat->Rat) (hA:∀i,i < L.length->∀j,j<=n->xG u L below i j=A j i) (hW:∀j,j<=n->∀r,r < L.length->Cov.Whole 1 (A j r)) (hG:Cov.Good L.length n A (λ_=>false) ⟨λi j=>A j i,λi=>n - L.length+i⟩):
 Cl 28 #[.agg #[.int .i64 u,vr,.bool below]] w λe w'=>∃g K s',e=.returned (.slice (some ⟨g,0,none⟩) u u)/\FrAt w' g u (Cov.xb L.length n s')/\
  Cov.Aims L.length n (jz (qw u L.length n below u)) (λ_=>false) ⟨λi j=>A j i,λi=>n - L.length+i⟩ K s'/\Cov.Good L.length n A K s'/\w.heap.size<=g/\g < w'.heap.size/\Bl w w':=by
 have KS:Hid (∀W,RowsAt W vr L->Cl 53 #[.agg #[.int .i64 u,vr,.bool below]] W λe w'=>∃V,e=.returned (.agg V)/\IsSx V L.length n (xG u L below) (λi=>n - L.length+i) (λ_=>false)/\Bl W w'):=hid (λW e6=>by
  have:=VG W u vr L below hu hL (by rw[<-hn];exact d6) e6 hlen d7;rw[<-hn]at this;exact this)
 obtain⟨a,cap,d8,-⟩:=id hr;have KA:Hid (∀W,Cl 54 #[.agg #[.int .i64 u,vr,.bool below]] W λe w'=>∃v,e=.returned v/\w'.ownsRow W.heap.size 108 20 v (qw u L.length n below u).length (ze (qw u L.length n below u))/\Bl W w'):=hid (λW=>by rw[d8];exact qAw W u L.length n a cap below hu d0 hn);have HR:=hid hr;have e7:u<=n:=by rw[hn];split <;> omega
 obtain⟨m,hm⟩:∃m,m=L.length:=⟨_,rfl⟩;obtain⟨l,hl⟩:∃l,l=qw u m n below u:=⟨_,rfl⟩;have e8:l.length<=9:=by rw[hl,uO];split <;> omega
 have d9:0 < l.length:=by rw[hl,uO];split <;> omega
 have a9:Hid (∀t∈l,t.2.2.natAbs<=1):=hid (by rw[hl];exact qBh u m n below u);rw[<-hm]at KS KA hL hA hW hG ⊢;rw[<-hl]at KA ⊢;obtain⟨ln,b0⟩:∃ln,ln=l.length:=⟨_,rfl⟩;rw[<-b0]at KA e8 d9;have HA:=hid hA;have HW:=hid hW;have HG:=hid hG;have HM:=hid hm;have b7:=hid b0;clear hA hW hG hm hl b0 d0 hn hlen d7 hr d8;have b9:Bl w (w.alloc (.cells #[.int .i64 u,vr,.bool below] 68)):=(bM _ _).alloc (bK _) _;have c7:ArrAt (w.alloc (.cells #[.int .i64 u,vr,.bool below] 68)) w.heap.size 3 (f3 (.int .i64 u) vr (.bool below)):=qz w 3 (f3 (.int .i64 u) vr (.bool below)) 68;have e9:(w.alloc (.cells #[.int .i64 u,vr,.bool below] 68)).heap.size=w.heap.size+1:=Ss;go_enter Tryz.func28,Tryz.ntmps28
 go_upto_region 1 with fail
 generalize w.alloc (.cells #[.int .i64 u,vr,.bool below] 68)=W at *;obtain⟨p0,p1,p2⟩:=c7.three;go_upto_region 2 with (first|(go_at_call 53;refine(KS.out _ (HR.out.below b9)).mono ?_;rintro e w2 ⟨V,rfl,hV,a4⟩;have HV:=hid hV;have HT:Hid ((w2.alloc (.cells zSx 103)).there w2.heap.size 0 V.size):=hid (by rw[hV.1];exact xo w2 _);have HI:Hid ((Tryz.prog.info? 103).map (·.size)=some V.size):=hid (by rw[hV.1];exact vZ);have HO:=hid hV.one;have a5:=hid (hV.stored (xo w2 103));clear hV)|(refine yb rfl rfl ?_)|(refine wpList_store_mid rfl 103 _ _ rfl _ 0 V (by rfl) (by rfl) (by exact HT.out) (by exact HI.out) (by exact HO.out) ?_))
 have O:Bl w w2:=bt b9 a4;have U:=O.size;have f4:=a4.size;have c8:Bl w ((w2.alloc (.cells zSx 103)).setCells w2.heap.size 0 V.toList):=zt U _ _ _ (O.alloc U _);have a6:ArrAt ((w2.alloc (.cells zSx 103)).setCells w2.heap.size 0 V.toList) w.heap.size 3 (f3 (.int .i64 u) vr (.bool below)):=((c7.below Oo a4).alloc Oo _).move (yK _ _ _ _ _ Oo);have e0:w.heap.size < w2.heap.size:=Oo;obtain⟨k,hk⟩:∃k,k=w2.heap.size:=⟨_,rfl⟩;rw[<-hk]at c8 a6 e0 a5 ⊢;generalize (w2.alloc (.cells zSx 103)).setCells k 0 V.toList=w3 at *;have g9:k < w3.heap.size:=a5.out.lt;clear HT HI HO HV a4 b9 c7 p0 p1 p2 O U f4 hk e9;obtain⟨p0,p1,p2⟩:=a6.three;go_wp2_with (first|(go_at_call 54;refine(KA.out _).mono ?_;rintro e w4 ⟨v,rfl,a2,a7⟩;obtain⟨g,gc,rfl,h0,h1⟩:=a2.form d9))
 have e1:Hid (LS w w4 k g gc u m n A l (f3 (.int .i64 u) vr (.bool below)) ⟨λi j=>A j i,λi=>n - m+i⟩ 0 (λ_=>false) ⟨λi j=>A j i,λi=>n - m+i⟩ (xG u L below)):=hid
  {aims:=⟨rfl,rfl⟩
   good:=HG.out
   sx:=a5.out.below a7
   rows:=HA.out
   last:=λj _=>by rw[show xG u L below m j=0 from if_neg (by rw[HM.out];omega)];exact⟨Dd,Dd⟩
   bel:=bt c8 a7
   own:=by rw[<-b7.out];exact qF a2 Oo
   arg:=a6.below Oo a7 }
 clear a5 a2 a7 c8 a6 p0 p1 p2 KS KA HR HG HA;go_loopw [11] (λt wr=>∃i:Nat,i<=ln/\t=.int .i64 i/\Hid (∃bar s C,LS w wr k g gc u m n A l (f3 (.int .i64 u) vr (.bool below)) ⟨λi j=>A j i,λi=>n - m+i⟩ i bar s C)) (λt _=>ln - (intOf t).toNat)
 case atStart=>exact⟨0,nZ _,rfl,hid ⟨_,_,_,e1.out⟩⟩
 case round=>
  clear e1;obtain⟨i,hi,rfl,hH⟩:=hrel;obtain⟨bar,s,C,I⟩:=hH.out;by_cases f7:i < ln
  ·have i1:(i:Int) < (ln:Int):=Oo;have a3:i < l.length:=by rw[<-b7.out];exact f7
   obtain⟨cs,M⟩:∃cs,cs=qJ (l.getD i (0,0,0)).1 (l.getD i (0,0,0)).2.1 (l.getD i (0,0,0)).2.2:=⟨_,rfl⟩;have f8:Hid (wr.rangeAt g (i*20) cs):=hid (by rw[M];exact qEm I.own a3);have c9:Hid (cs.length=20):=hid (by rw[M];exact qx _ _ _);have e2:Hid ((Tryz.prog.info? 108).map (·.size)=some cs.length):=hid (by rw[c9.out];exact Zj);have f9:Hid ((Tryz.prog.info? 108).map (·.size)=some cs.toArray.size):=hid (by rw[show cs.toArray.size=20 by simpa using c9.out];exact Zj);have g2:Hid (cs.toArray.all (·.oneCell')=true):=hid (all_oneCell_toArray (by rw[M];exact yX _ _ _));have e3:Hid ((wr.alloc (.cells (zG 20 (λ_=>.int .i64 0)).toArray 108)).there wr.heap.size 0 cs.toArray.size):=hid (by rw[show cs.toArray.size=20 by simpa using c9.out];exact(qz wr 20 (λ_=>.int .i64 0) 108).there)
   have g4:Hid (((wr.alloc (.cells (zG 20 (λ_=>.int .i64 0)).toArray 108)).setCells wr.heap.size 0 cs.toArray.toList).rangeAt wr.heap.size 0 cs):=hid (by
    have:=World.rangeAt_setCells_same (wr.alloc (.cells (zG 20 (λ_=>.int .i64 0)).toArray 108)) wr.heap.size 0 cs.toArray.toList (by have:=e3.out;simpa using this);simpa using this)
   have e4:Bl wr ((wr.alloc (.cells (zG 20 (λ_=>.int .i64 0)).toArray 108)).setCells wr.heap.size 0 cs.toArray.toList):=zt (bK _) _ _ _ ((bM _ _).alloc (bK _) _);have e5:=hid e4;have a8:=hid I;have h2:=hid M
   have KL:Hid (∀W,SxAt W k m n C s.B bar->Cl 55 #[.pointer (some ⟨k,0,none⟩),.agg cs.toArray] W λe w'=>e=.returned (.tuple #[])/\Kb k W w'/\∃K s',Cov.Aim m n (rc (zg (l.getD i (0,0,0)).1 (l.getD i (0,0,0)).2.1 (l.getD i (0,0,0)).2.2)) bar s K s'/\SxAt w' k m n (full m (zg (l.getD i (0,0,0)).1 (l.getD i (0,0,0)).2.1 (l.getD i (0,0,0)).2.2) s') s'.B K):=hid (λW hS=>by
    rw[M];refine VD W k m n A C s bar hS I.rows I.last I.good HW.out _ (YY _ _ _ (a9.out _ ?_));rw[gD,bC a3];exact gM _)
   clear hH I M e4;go_wp2_with (first|(refine wpList_load_mid rfl 108 _ rfl g (i*20) (by rfl) cs _ (by exact f8.out) Tryz.underlying108 (by rfl) (by exact e2.out) ?_)|(refine je rfl rfl ?_)|(refine wpList_store_mid rfl 108 _ _ rfl wr.heap.size 0 cs.toArray (by rfl) (by rfl) (by exact e3.out) (by exact f9.out) (by exact g2.out) ?_)|(refine wpList_load_mid rfl 108 _ rfl wr.heap.size 0 (by rfl) cs _ (by exact g4.out) Tryz.underlying108 (by rfl) (by exact e2.out) ?_)|(go_at_call 55;refine(KL.out _ (a8.out.sx.below e5.out)).mono ?_;rintro e w5 ⟨rfl,hK,K,s',ha,g5⟩))
   go_roundw
   case rel=>exact⟨i+1,Oo,Gg,hid ⟨_,_,_,a8.out.step a3 hL HW.out a9.out e0 e5.out hK ha g5⟩⟩
   case measure=>simp[intOf];omega
  ·obtain rfl:i=ln:=Oo;have i1:¬((i:Int) < (i:Int)):=Oo;obtain⟨p0,-,-⟩:=I.arg.three;have KV:Hid (Cl 56 #[.pointer (some ⟨k,0,none⟩),.int .i64 u] wr λe w'=>e=.returned (.slice (some ⟨wr.heap.size,0,none⟩) u u)/\FrAt w' wr.heap.size u (yz C s.B n m)/\wr.heap.size < w'.heap.size/\Bl wr w'):=hid (UM wr k m n u C s.B bar I.sx Oo e7);have a8:=hid I;clear hH I;go_wp2_with (first|(go_at_call 56;refine KV.out.mono ?_;rintro e w5 ⟨rfl,hF,g6,g7⟩))
   go_ret;have I:=a8.out;have g8:=I.bel.size;refine⟨_,bar,s,rfl,⟨λj hj=>?_,λj hj=>?_,hF.free⟩,?_,I.good,g8,g6,bt I.bel g7⟩
   ·rw[hF.num j hj];have:yz C s.B n m j=Cov.xb m n s j:=(ZB (λa ha b hb e=>I.good.inv.inj ha hb e) j).trans (Cov.sm_congr (λa ha=>by show(if s.B a=j then C a n else 0)=if s.B a=j then s.T a n else 0;rw[I.rows a ha n (bK _)]));rw[this]
   ·rw[hF.den j hj];have:yz C s.B n m j=Cov.xb m n s j:=(ZB (λa ha b hb e=>I.good.inv.inj ha hb e) j).trans (Cov.sm_congr (λa ha=>by show(if s.B a=j then C a n else 0)=if s.B a=j then s.T a n else 0;rw[I.rows a ha n (bK _)]));rw[this]
   ·have:=I.aims;rw[b7.out,tL]at this;exact this
def plN(p:Nat->Bool)(k:Nat):List Nat:=(List.range k).filter p
theorem qE7(p:Nat->Bool)(k:Nat):plc p k=(plN p k).map Int.ofNat:=rfl
def qG(bag:List Int)(es:List (List Int)):List (List Nat):=bag.map λx=>plN (λi=>decide (x∈es.getD i [])) es.length
def qc(bag:List Int)(es:List (List Int)):List (List Nat):=es.map λe=>plN (λi=>decide (bag.getD i 0∈e)) bag.length
theorem Kj(bag:List Int)(es:List (List Int)):zM bag es=(qG bag es).map (λl=>l.map Int.ofNat):=by
 unfold zM qG;rw[List.map_map];rfl
theorem qBN(bag:List Int)(es:List (List Int)):zV bag es=(qc bag es).map (λl=>l.map Int.ofNat):=by
 unfold zV qc;rw[List.map_map];rfl
theorem qAL{W:World}{B pB:Nat}{u:Int}{bel:Bool}{vr:Value}{vs:List Value}{L:List (List Nat)}(h:PR W B pB u bel vr vs (L.map (λl=>l.map Int.ofNat))):RowsAt W vr L:=by
 have I:=h.own;have hlen:=h.len;rw[lM]at I hlen;rcases I.2 with ⟨rfl,V⟩|⟨g,cap,cur,rfl,a2,hc,hn,-,-,ht⟩
 ·exact⟨none,0,by rw[V],λi hi=>Oo⟩
 ·refine⟨_,cap,rfl,λi hi=>⟨g,0,vs.getD i undef,rfl,?_,?_⟩⟩
  ·rw[cell_of_row _ _ _ _ _ _ hc,Nat.zero_add,<-Array.getElem?_toList];have:(cur.toList.take (L.length*1))[i]?=vs[i]?:=by rw[ht]
   rw[List.getElem?_take_of_lt Oo]at this;rw[this,gD,bC Oo];rfl
  ·have U:=h.each i (by rw[lM];exact hi)
   have hg:(L.map (λl=>l.map Int.ofNat)).getD i []=(L.getD i []).map Int.ofNat:=by
    rw[gD,bN,gD,bC hi];rfl
   rw[hg]at U;obtain⟨a,cp,e,M⟩:=qK U;rw[lM]at e M;refine⟨a,cp,e,λj O=>?_⟩;rcases M with h0|⟨b,o,ea,K⟩
   ·omega
   ·refine⟨b,o,ea,(K j O).trans ?_⟩;generalize L.getD i []=q at O ⊢;rw[gD,bN,gD,bC O];rfl
def qY(m u:Nat)(M:Nat->Nat->Rat)(x:Nat->Rat):Prop:=Cov.Cover m u M x/\∀y,Cov.Cover m u M y->Cov.Lex (Cov.key 1 u x) (Cov.key 1 u y)
def ux(m u:Nat)(M:Nat->Nat->Rat)(x:Nat->Rat):Prop:=Cov.Pack m u M x/\∀y,Cov.Pack m u M y->Cov.Lex (Cov.key (-1) u x) (Cov.key (-1) u y)
def Parts(u:Nat)(x:Nat->Rat):Prop:=∃D:Int,D≠0/\D.natAbs<=5040/\∀j,j < u->Cov.Whole 5040 (x j*((D:Int):Rat))
theorem ZX{m n:Nat}{A:Nat->Nat->Rat}{bar:Nat->Bool}{s:Cov.Sx}(h:Cov.Good m n A bar s)(K:m<=7)(M:∀j,j<=n->∀r,r < m->Cov.Whole 1 (A j r))(u:Nat):Parts u (Cov.xb m n s):=by
 obtain⟨D,O,hD,U⟩:=h.inv.small M;have V:=Zh K;refine⟨D,O,Oo,λj _=>?_⟩;by_cases I:∃i,i < m/\s.B i=j
 ·obtain⟨i,hi,rfl⟩:=I;unfold Cov.xb;rw[h.inv.val_basic _ hi];exact(U i hi n (bK _)).mono V
 ·unfold Cov.xb;rw[Cov.val_not (λi hi e=>I ⟨i,hi,e⟩)];exact⟨0,Ss,Ss⟩
theorem Parts.sm(h:Parts u x)(I:j < u):Sm 5040 (x j):=by
 obtain⟨D,K,M,O⟩:=h;exact zO K M (O j I) (bK _)
theorem Parts.sum(h:Parts u x)(M:k<=u)(O:u<=7):Sm 36000 (Cov.sm k x):=by
 obtain⟨D,I,U,K⟩:=h;refine zO (D:=D) (Z:=k*5040) I Oo ?_ ?_
 ·have:Cov.sm k x*((D:Int):Rat)=Cov.sm k (λj=>x j*((D:Int):Rat)):=by
   rw[show(λj=>x j*((D:Int):Rat))=(λj=>((D:Int):Rat)*x j) from funext λj=>Rr,Cov.sm_mul];grind
  rw[this];exact Cov.whole_sm k (λj V=>K j Oo)
 ·have:k*5040<=7*5040:=Nat.mul_le_mul Oo (bK _);omega
theorem kT(L:List (List Nat))(r e:Nat):0<=inc L r e:=by
 unfold inc;split
 ·decide
 ·exact Rat.le_refl
theorem Kk(w:World)(u:Nat)(vr:Value)(L:List (List Nat))(hu:u<=7)(hL:L.length<=6)(hr:RowsAt w vr L)(hlen:∀i,i < L.length->(L.getD i []).length<=7)(I:∀i,i < L.length->∀j∈L.getD i [],j < u)
 (K:∀r,r < L.length->∃e,e < u/\inc L r e=1):
 Cl 28 #[.agg #[.int .i64 u,vr,.bool true]] w λe w'=>∃g x,e=.returned (.slice (some ⟨g,0,none⟩) u u)/\FrAt w' g u x/\qY L.length u (inc L) x/\Parts u x/\w.heap.size<=g/\g < w'.heap.size/\Bl w w':=by
 have hg:=Cov.cover_good (m:=L.length) (u:=u) (M:=inc L);have O:(λi=>u+L.length+L.length - L.length+i)=λi=>u+L.length+i:=funext λi=>Oo;refine(yq w u (u+L.length+L.length) vr L true hu Oo (λ_=>hL) rfl Oo hr hlen I (Cov.coverA L.length u (inc L)) (λi hi j hj=>UF u L i j hi hj) (λj _ r _=>jO _ _ _ _ _) (by rw[O];exact hg)).mono ?_;rintro e w' ⟨g,U,s',rfl,hF,V,hG,h1,h2,hb⟩;rw[qAZ,O]at V;obtain⟨g1,g2,g3⟩:=Cov.cover_least (λr _ e _=>kT L r e) K V;exact⟨g,_,rfl,hF,⟨g2,g3⟩,ZX hG Oo (λj _ r _=>jO _ _ _ _ _) u,h1,h2,hb⟩
theorem qBO(w:World)(u:Nat)(vr:Value)(L:List (List Nat))(hu:u<=6)(hL:L.length<=7)(hr:RowsAt w vr L)(hlen:∀i,i < L.length->(L.getD i []).length<=7)(I:∀i,i < L.length->∀j∈L.getD i [],j < u)
 (K:∀e,e < u->∃r,r < L.length/\inc L r e=1):
 Cl 28 #[.agg #[.int .i64 u,vr,.bool false]] w λe w'=>∃g x,e=.returned (.slice (some ⟨g,0,none⟩) u u)/\FrAt w' g u x/\ux L.length u (inc L) x/\Parts u x/\w.heap.size<=g/\g < w'.heap.size/\Bl w w':=by
 have hg:=Cov.pack_good (m:=L.length) (u:=u) (M:=inc L);have O:(λi=>u+L.length - L.length+i)=λi=>u+i:=funext λi=>Oo;refine(yq w u (u+L.length) vr L false Oo Oo (λh=>by cases h) rfl Oo hr hlen I (Cov.packA L.length u (inc L)) (λi hi j hj=>Jo u L i j hi hj) (λj _ r _=>Zm _ _ _ _ _) (by rw[O];exact hg)).mono ?_;rintro e w' ⟨g,U,s',rfl,hF,V,hG,h1,h2,hb⟩;rw[qBg,O]at V;obtain⟨g1,g2,g3⟩:=Cov.pack_least (λr _ e _=>kT L r e) K V;exact⟨g,_,rfl,hF,⟨g2,g3⟩,ZX hG Oo (λj _ r _=>Zm _ _ _ _ _) u,h1,h2,hb⟩
def prs(u:Nat)(x:Nat->Rat):List (Int×Int):=(List.range u).map λj=>((x j).num,((x j).den:Int))
theorem qR(u:Nat)(x:Nat->Rat):(prs u x).length=u:=by simp[prs]
theorem vJ(h:j < u):(prs u x).getD j (0,0)=((x j).num,((x j).den:Int)):=by
 unfold prs;rw[gD,bN,List.getElem?_range h];rfl
theorem qAM{g:Nat}(h:FrAt w g u x):IR w (.slice (some ⟨g,0,none⟩) u u) (prs u x):=by
 refine⟨_,u,by rw[qR],Or.inr ⟨g,0,rfl,λj I=>?_⟩⟩;rw[qR]at I;rw[vJ I,Nat.zero_add];exact⟨h.num j I,h.den j I⟩
theorem Yy(w:World)(v:Value)(u:Nat)(x:Nat->Rat)(K:u<=7)(h:IR w v (prs u x))(hp:Parts u x):
 Cl 27 #[v] w λe w'=>∃v,e=.returned v/\w'.ownsRow w.heap.size 28 2 v (prs u x).length (rcs (prs u x))/\Bl w w':=by
 refine JE w v (prs u x) h (by rw[qR];omega) (λj I=>?_);rw[qR]at I;rw[vJ I];have:=hp.sm I;have M:=this.1;have O:=this.2;refine⟨⟨?_,?_⟩,?_,?_⟩ <;> simp only <;> omega
theorem Jc{q:Rat}(h:Sm 1000000 q):OkR q.num q.den:=by
 have I:=h.1;have K:=h.2;have M:=q.den_pos;refine⟨Oo,Oo,Oo,Oo,?_⟩;have:=q.reduced;unfold Nat.Coprime at this;rw[Int.gcd,Int.natAbs_natCast];exact this
theorem qGG(p q:Rat)(w:World)(hp:Sm 1000000 p)(hq:Sm 1000000 q)(hs:Sm 1000000 (p+q)):
 Cl 58 #[.agg #[.int .i64 p.num,.int .i64 p.den],.agg #[.int .i64 q.num,.int .i64 q.den]] w λe w'=>e=.returned (.agg #[.int .i64 (p+q).num,.int .i64 (p+q).den])/\Bl w w':=by
 have I:(p.den:Int)*(q.den:Int)≠0:=Int.mul_ne_zero (by have:=p.den_nz;omega) (by have:=q.den_nz;omega)
 have e:p+q=Rat.divInt (p.num*q.den+q.num*p.den) (p.den*q.den):=by
  rw[<-Rat.divInt_add_divInt _ _ (by have:=p.den_nz;omega) (by have:=q.den_nz;omega),Rat.num_divInt_den,Rat.num_divInt_den]
 obtain⟨f1,f2⟩:=qBi (p.num*q.den+q.num*p.den) (p.den*q.den) I;rw[<-e]at f1 f2;have:=qDd p.num p.den q.num q.den w (Jc hp) (Jc hq) (by rw[f1,f2];exact Jc hs);rw[f1,f2]at this;exact this
theorem qDr(w:World)(v:Value)(u:Nat)(x:Nat->Rat)(K:u<=7)(h:IR w v (prs u x))(hp:Parts u x):
 Cl 31 #[v] w λe w'=>e=.returned (.agg #[.int .i64 (Cov.sm u x).num,.int .i64 (Cov.sm u x).den])/\Bl w w':=by
 have:=Kg w v (prs u x) h (by rw[qR];omega) (λk=>((Cov.sm k x).num,((Cov.sm k x).den:Int))) rfl (λk W I=>by
  rw[qR]at I;rw[vJ I];exact qGG (Cov.sm k x) (x k) W ((hp.sum Oo K).mono Oo) ((hp.sm I).mono Oo) ((hp.sum (k:=k+1) Oo K).mono Oo))
 rw[qR]at this;exact this
def f5(x y z u v:Value):Nat->Value
 |0=>x
 |1=>y
 |2=>z
 |3=>u
 |_=>v
theorem ArrAt.five{x u:Value}(h:ArrAt w k 5 (f5 x y z u v)):w.cell? ⟨k,0,none⟩=some x/\w.cell? ⟨k,1,none⟩=some y/\w.cell? ⟨k,2,none⟩=some z/\w.cell? ⟨k,3,none⟩=some u/\w.cell? ⟨k,4,none⟩=some v:=⟨h.cell 0 Oo,h.cell 1 Oo,h.cell 2 Oo,h.cell 3 Oo,h.cell 4 Oo⟩
theorem ArrAt.frees{f:Nat->Value}(h:ArrAt w k 5 f):w.frozen? ⟨k,0,none⟩=false/\w.frozen? ⟨k,1,none⟩=false/\w.frozen? ⟨k,2,none⟩=false/\w.frozen? ⟨k,3,none⟩=false/\w.frozen? ⟨k,4,none⟩=false:=⟨h.free 0 Oo,h.free 1 Oo,h.free 2 Oo,h.free 3 Oo,h.free 4 Oo⟩
theorem ArrAt.five_set{x u:Value}(h:ArrAt w k 5 (f5 x y z u v))(I K M O v':Value):
 ArrAt (((((w.setCell ⟨k,0,none⟩ I).setCell ⟨k,1,none⟩ K).setCell ⟨k,2,none⟩ M).setCell ⟨k,3,none⟩ O).setCell ⟨k,4,none⟩ v') k 5 (f5 I K M O v'):=by
 have:=((((h.set (i:=0) Oo I).set (i:=1) Oo K).set (i:=2) Oo M).set (i:=3) Oo O).set (i:=4) Oo v';refine⟨λj U=>?_,this.free⟩;rw[this.cell j U];match j,U with
 |0,_=>rfl
 |1,_=>rfl
 |2,_=>rfl
 |3,_=>rfl
 |4,_=>rfl
theorem zh(bag:List Int)(es:List (List Int)):(qG bag es).length=bag.length:=by simp[qG]
theorem zP(bag:List Int)(es:List (List Int)):(qc bag es).length=es.length:=by simp[qc]
theorem x8(bag:List Int)(es:List (List Int))(h:i < bag.length):(qG bag es).getD i []=plN (λk=>decide (bag.getD i 0∈es.getD k [])) es.length:=by
 unfold qG;rw[gD,bN,gD (l:=bag),bC h];rfl
theorem vf(bag:List Int)(es:List (List Int))(h:i < es.length):(qc bag es).getD i []=plN (λk=>decide (bag.getD k 0∈es.getD i [])) bag.length:=by
 unfold qc;rw[gD,bN,gD (l:=es),bC h];rfl
theorem Qd(p:Nat->Bool)(k:Nat):(plN p k).length<=k:=by
 have:=List.length_filter_le p (List.range k);rw[List.length_range]at this;exact this
theorem xh{p:Nat->Bool}:j∈plN p k↔j < k/\p j=true:=by
 unfold plN;rw[List.mem_filter,List.mem_range]
theorem Yb(hr:r < bag.length)(I:e < es.length):inc (qG bag es) r e=if bag.getD r 0∈es.getD e [] then 1 else 0:=by
 unfold inc;rw[x8 bag es hr];by_cases h:bag.getD r 0∈es.getD e []
 ·rw[if_pos h,if_pos (xh.2 ⟨I,decide_eq_true h⟩)]
 ·rw[if_neg h,if_neg (λK=>h (of_decide_eq_true (xh.1 K).2))]
theorem qCv(hr:r < es.length)(I:e < bag.length):inc (qc bag es) r e=if bag.getD e 0∈es.getD r [] then 1 else 0:=by
 unfold inc;rw[vf bag es hr];by_cases h:bag.getD e 0∈es.getD r []
 ·rw[if_pos h,if_pos (xh.2 ⟨I,decide_eq_true h⟩)]
 ·rw[if_neg h,if_neg (λK=>h (of_decide_eq_true (xh.1 K).2))]
theorem jE(h:ql bag es=true){v:Nat}(hv:v < bag.length):∃e,e < es.length/\bag.getD v 0∈es.getD e []:=by
 unfold ql at h;have:=bY.1 h (bag.getD v 0) (xz hv);obtain⟨x,K,M⟩:=List.any_eq_true.1 this;obtain⟨e,I,rfl⟩:=List.mem_iff_getElem.1 K;refine⟨e,I,?_⟩;rw[gD (l:=es),bC I];exact of_decide_eq_true M
theorem x9(h:qL l=true)(hi:i < l.length):0<=l.getD i 0/\l.getD i 0 < 6/\(i=0∨l.getD (i - 1) 0 < l.getD i 0):=by
 have:=bY.1 h i (List.mem_range.2 hi);unfold zc at this;simp only[Bool.and_eq_true,Bool.or_eq_true,decide_eq_true_eq]at this;exact⟨this.1.1,this.1.2,this.2⟩
theorem Kw{l:List Int}(h:qL l=true):∀i,i < l.length->(i:Int)<=l.getD i 0
 |0,hi=>by have:=(x9 h hi).1;simpa using this
 |i+1,hi=>by
  have K:=Kw h i Oo;rcases (x9 h hi).2.2 with I|I
  ·omega
  ·rw[show i+1 - 1=i by omega]at I;omega
theorem xq(h:qL l=true):l.length<=6:=by
 rcases Nat.lt_or_ge 6 l.length with I|I
 ·have K:=Kw h 6 I;have M:=(x9 h I).2.1;omega
 ·exact I
theorem xH(h:qj es=true):es.length<=7:=by
 unfold qj at h;simp only[Bool.and_eq_true,decide_eq_true_eq]at h;exact h.1
theorem Qz(w:World)(vb ve:Value)(bag:List Int)(es:List (List Int))(hb:IS w vb bag)(h:ISS w ve es)(e2:bag.length<=1099511627776)(hl:zS es)(h1:qL bag=true)(h2:qj es=true)(h3:ql bag es=true):
 Cl 8 #[vb,ve] w λe w'=>∃x y vW vD,e=.returned (.agg #[.bool true,.int .i64 (Cov.sm es.length x).num,.int .i64 (Cov.sm es.length x).den,vW,vD])/\qY bag.length es.length (inc (qG bag es)) x/\ux es.length bag.length (inc (qc bag es)) y/\
  Parts es.length x/\Parts bag.length y/\w'.ownsRow w.heap.size 28 2 vW (prs es.length x).length (rcs (prs es.length x))/\w'.ownsRow w.heap.size 28 2 vD (prs bag.length y).length (rcs (prs bag.length y))/\(∀g,vW.ownBlock=some g->vD.ownBlock≠some g)/\Bl w w':=by
 have f7:=xq h1;have c9:=xH h2;have e3:=zh bag es;have e4:=zP bag es
 have SC:Hid (∀W vr,RowsAt W vr (qG bag es)->Cl 28 #[.agg #[.int .i64 es.length,vr,.bool true]] W λe w'=>∃g x,e=.returned (.slice (some ⟨g,0,none⟩) es.length es.length)/\FrAt w' g es.length x/\qY bag.length es.length (inc (qG bag es)) x/\Parts es.length x/\W.heap.size<=g/\g < w'.heap.size/\Bl W w'):=hid (λW vr hr=>by
  have:=Kk W es.length vr (qG bag es) c9 Oo hr (λi hi=>by rw[x8 bag es Oo];have:=Qd (λk=>decide (bag.getD i 0∈es.getD k [])) es.length;omega) (λi hi j hj=>by rw[x8 bag es Oo]at hj;exact(xh.1 hj).1) (λr hr=>by
   obtain⟨e,he,hm⟩:=jE h3 (v:=r) Oo;exact⟨e,he,by rw[Yb Oo he,if_pos hm]⟩)
  rw[e3]at this;exact this)
 have SP:Hid (∀W vr,RowsAt W vr (qc bag es)->Cl 28 #[.agg #[.int .i64 bag.length,vr,.bool false]] W λe w'=>∃g x,e=.returned (.slice (some ⟨g,0,none⟩) bag.length bag.length)/\FrAt w' g bag.length x/\ux es.length bag.length (inc (qc bag es)) x/\Parts bag.length x/\W.heap.size<=g/\g < w'.heap.size/\Bl W w'):=hid (λW vr hr=>by
  have:=qBO W bag.length vr (qc bag es) f7 Oo hr (λi hi=>by rw[vf bag es Oo];have:=Qd (λk=>decide (bag.getD k 0∈es.getD i [])) bag.length;omega) (λi hi j hj=>by rw[vf bag es Oo]at hj;exact(xh.1 hj).1) (λe he=>by
   obtain⟨r,hr,hm⟩:=jE h3 (v:=e) Oo;exact⟨r,Oo,by rw[qCv hr Oo,if_pos hm]⟩)
  rw[e4]at this;exact this)
 have CP:Hid (∀W,IS W vb bag->ISS W ve es->Cl 29 #[vb,ve] W λe w'=>∃vr,e=.returned (.agg #[.int .i64 es.length,vr,.bool true])/\RowsAt w' vr (qG bag es)/\Bl W w'):=hid (λW M O=>(QP W vb ve bag es M O Oo hl).mono (by
  rintro e w' ⟨vr,vs,rfl,hp,d6⟩;rw[Kj]at hp;exact⟨vr,rfl,qAL hp,d6⟩))
 have PP:Hid (∀W,IS W vb bag->ISS W ve es->Cl 30 #[vb,ve] W λe w'=>∃vr,e=.returned (.agg #[.int .i64 bag.length,vr,.bool false])/\RowsAt w' vr (qc bag es)/\Bl W w'):=hid (λW M O=>(kO W vb ve bag es M O Oo hl Oo).mono (by
  rintro e w' ⟨vr,vs,rfl,hp,d6⟩;rw[qBN]at hp;exact⟨vr,rfl,qAL hp,d6⟩))
 have HB:=hid hb;have HE:=hid h;obtain⟨a,cap,rfl,-⟩:=hb;obtain⟨a',I,rfl,-⟩:=h;have hA:Bl w (w.alloc (.cells #[.bool false,.int .i64 0,.int .i64 0,.slice none 0 0,.slice none 0 0] 36)):=(bM _ _).alloc (bK _) _;have hs:w.heap.size < (w.alloc (.cells #[.bool false,.int .i64 0,.int .i64 0,.slice none 0 0,.slice none 0 0] 36)).heap.size:=Ss;have hc:ArrAt (w.alloc (.cells #[.bool false,.int .i64 0,.int .i64 0,.slice none 0 0,.slice none 0 0] 36)) w.heap.size 5 (f5 (.bool false) (.int .i64 0) (.int .i64 0) (.slice none 0 0) (.slice none 0 0)):=qz w 5 (f5 (.bool false) (.int .i64 0) (.int .i64 0) (.slice none 0 0) (.slice none 0 0)) 36;have K1:Hid (∀W,IS W (.slice a bag.length cap) bag->Cl 24 #[.slice a bag.length cap] W λe w'=>e=.returned (.bool true)/\w'=W):=hid (λW M=>by have:=xj W _ bag M e2;rw[h1]at this;exact this);have K2:Hid (∀W,ISS W (.slice a' es.length I) es->Cl 25 #[.slice a' es.length I] W λe w'=>e=.returned (.bool true)/\w'=W):=hid (λW M=>by have:=Xi W _ es M hl;rw[h2]at this;exact this);have K3:Hid (∀W,IS W (.slice a bag.length cap) bag->ISS W (.slice a' es.length I) es->Cl 26 #[.slice a bag.length cap,.slice a' es.length I] W λe w'=>e=.returned (.bool true)/\Bl W w'):=hid (λW M O=>by have:=VI W _ _ bag es M O e2 hl;rw[h3]at this;exact this);clear h1 h2 h3 e3 e4 hl;go_enter Tryz.func8,Tryz.ntmps8
 go_upto_region 1 with fail
 generalize w.alloc (.cells #[.bool false,.int .i64 0,.int .i64 0,.slice none 0 0,.slice none 0 0] 36)=W at *;go_upto_region 3 with (first|(go_at_call 24;refine(K1.out _ (HB.out.below hA)).mono ?_;rintro e w' ⟨rfl,f8⟩;subst w')|(go_at_call 25;refine(K2.out _ (HE.out.below hA)).mono ?_;rintro e w' ⟨rfl,f8⟩;subst w')|(go_at_call 26;refine(K3.out _ (HB.out.below hA) (HE.out.below hA)).mono ?_;rintro e w9 ⟨rfl,a4⟩))
 have a5:Bl w w9:=bt hA a4;have e5:=hc.below Oo a4;have e6:w.heap.size < w9.heap.size:=bV hs a4.size;clear K1 K2 K3 hc a4 hA hs;go_upto_region 4 with (first|(go_at_call 29;refine(CP.out _ (HB.out.below a5) (HE.out.below a5)).mono ?_;rintro e w1 ⟨vr,rfl,U,V⟩)|(go_at_call 28;refine(SC.out _ _ U).mono ?_;rintro e w2 ⟨g,x,rfl,hF,hX,hP,d7,d8,a2⟩)|(go_at_call 27;refine(Yy _ _ _ x c9 (qAM hF) hP).mono ?_;rintro e w3 ⟨vW,rfl,d9,a6⟩))
 have a7:Bl w w3:=bt (bt (bt a5 V) a2) a6;have e7:=((e5.below Oo V).below Oo a2).below Oo a6;have e8:w.heap.size+1<=w2.heap.size:=bQ e6 (bt V a2).size;have e9:w9.heap.size<=w3.heap.size:=(bt (bt V a2) a6).size;have HX:=hid hX;have HP:=hid hP;clear CP SC U hF hX hP d7 d8 V a2 a6 a5 e5;go_upto_region 5 with (first|(go_at_call 30;refine(PP.out _ (HB.out.below a7) (HE.out.below a7)).mono ?_;rintro e w4 ⟨vr,rfl,U,a8⟩)|(go_at_call 28;refine(SP.out _ _ U).mono ?_;rintro e w5 ⟨g,y,rfl,hF,hY,hQ,d7,d8,a9⟩)|(go_at_call 27;refine(Yy _ _ _ y Oo (qAM hF) hQ).mono ?_;rintro e w6 ⟨vD,rfl,e0,b9⟩))
 have b0:Bl w3 w6:=bt (bt a8 a9) b9;have f9:Bl w w6:=bt a7 b0;have g2:=e7.below Oo b0;have c7:=qB d9 b0
 have f4:∀q,vW.ownBlock=some q->vD.ownBlock≠some q:=λq h1 h2=>by
  have l1:=(d9.lt q h1).2;have l2:=(e0.lt q h2).1;have l3:=(bt a8 a9).size;omega
 have K:=qF c7 e8;have a3:=qF (B':=w.heap.size+1) e0 (bQ (bQ e6 e9) (bt a8 a9).size);have HY:=hid hY;have HQ:=hid hQ;have g4:=hid f4;clear PP SP U hF hY hQ d7 d8 a8 a9 b9 a7 e7 d9 e0 b0 c7 f4;have g5:Hid (∀W,IR W vW (prs es.length x)->Cl 31 #[vW] W λe w'=>e=.returned (.agg #[.int .i64 (Cov.sm es.length x).num,.int .i64 (Cov.sm es.length x).den])/\Bl W w'):=hid (λW M=>qDr W vW es.length x c9 M HP.out);have g6:=hid (QA K);obtain⟨aW,cW,eW,-⟩:=QA K;obtain⟨aD,cD,eD,-⟩:=QA a3;have g7:=hid K;have g8:=hid a3;clear K a3;subst eW eD;go_wp2_with (first|(go_at_call 31;refine(g5.out _ g6.out).mono ?_;rintro e w7 ⟨rfl,b7⟩;have e1:=g2.below Oo b7;obtain⟨c0,c1,c2,c3,c4⟩:=e1.five;obtain⟨d0,d1,d2,d3,d4⟩:=e1.frees))
 have hz:=e1.five_set (.bool true) (.int .i64 (Cov.sm es.length x).num) (.int .i64 (Cov.sm es.length x).den) (.slice aW (prs es.length x).length cW) (.slice aD (prs bag.length y).length cD);obtain⟨r0,r1,r2,r3,r4⟩:=hz.five;have g9:Bl w w7:=bt f9 b7
 have c8:∀(v:Value) n xs,w7.ownsRow (w.heap.size+1) 28 2 v n xs->(((((w7.setCell ⟨w.heap.size,0,none⟩ (.bool true)).setCell ⟨w.heap.size,1,none⟩ (.int .i64 (Cov.sm es.length x).num)).setCell ⟨w.heap.size,2,none⟩ (.int .i64 (Cov.sm es.length x).den)).setCell ⟨w.heap.size,3,none⟩ (.slice aW (prs es.length x).length cW)).setCell ⟨w.heap.size,4,none⟩ (.slice aD (prs bag.length y).length cD)).ownsRow w.heap.size 28 2 v n xs:=λv n xs hv=>qF (qA hv (λg hg=>by
  have:=(hv.lt g hg).1;rw[bE _ _ _ _ (by show g≠w.heap.size;omega),bE _ _ _ _ (by show g≠w.heap.size;omega),bE _ _ _ _ (by show g≠w.heap.size;omega),bE _ _ _ _ (by show g≠w.heap.size;omega),bE _ _ _ _ (by show g≠w.heap.size;omega)])) Oo
 refine bodyPost_ret (v:=.agg #[.bool true,.int .i64 (Cov.sm es.length x).num,.int .i64 (Cov.sm es.length x).den,.slice aW (prs es.length x).length cW,.slice aD (prs bag.length y).length cD]) (by simp[results,Tryz.results8,go_sem,r0,r1,r2,r3,r4]) rfl ⟨x,y,_,_,rfl,HX.out,HY.out,HP.out,HQ.out,c8 _ _ _ (qB g7.out b7),c8 _ _ _ (qB g8.out b7),g4.out,?_⟩;exact((((g9.setCell (bK _) _).setCell (bK _) _).setCell (bK _) _).setCell (bK _) _).setCell (bK _) _
end Go.Proofs.YtkaipapdlnojiaaGreat
