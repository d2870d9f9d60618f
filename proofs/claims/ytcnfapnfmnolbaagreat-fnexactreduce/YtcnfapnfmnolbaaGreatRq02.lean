import Derived.BigQuiet
import Derived.Deep.QuietTactic
import Derived.Deep.RegionWith
import Derived.Handy
import Derived.WalkLawsBesides
import Derived.WalkSpells
import Derived.Test.YtcnfapnfmnolbaaGreatRq01
set_option maxHeartbeats 40000000
set_option maxRecDepth 1000000
namespace Go.Proofs.YtcnfapnfmnolbaaGreat
open Go.RowKit
theorem qR{k:IntKind}{a b:Int}(h:a=b):Ending.returned (.int k a)=.returned (.int k b):=by rw[h]
theorem qDA(a b:Int)(w:World)(ha:-9000000000000000000<=a)(O:a<=9000000000000000000)(hb:-9000000000000000000<=b)(U:b<=9000000000000000000):
 Cl 179 #[ai a,ai b] w λe w'=>e=.returned (ai (Int.gcd a b))/\Bl w w':=by
 go_enter Tryz.func179,Tryz.ntmps179;go_wp2;go_loopw [0,1] (λx y wr=>∃K M:Int,x=ai K/\y=ai M/\-9000000000000000000<=K/\K<=9000000000000000000/\-9000000000000000000<=M/\M<=9000000000000000000/\Hh (Int.gcd K M=Int.gcd a b)/\Bl w wr) (λ_ y _=>(intOf y).natAbs);exact⟨a,b,rfl,rfl,ha,O,hb,U,ay rfl,bJ _ _⟩;obtain⟨x,y,rfl,rfl,hx,a4,hy,V,hg,I⟩:=hrel;by_cases h0:y=0
 ·subst h0;have hz:=RatM.gcd_zero x;rw[hg.o]at hz;clear hg;have HZ:=ay hz;clear hz;go_wp2;all_goals
   go_ret
   exact⟨qR (by rw[HZ.o];omega),I⟩
 have a5:(y == 0)=false:=by simpa using h0
 have a3:=RatM.natAbs_tmod_lt x y h0;have hs:=ay ((RatM.gcd_step x y).trans hg.o);go_wp2;go_quiet (fail)
 go_roundw
 case rel=>(repeat apply Exists.intro);exact⟨⟨y,x.tmod y,rfl,rfl,hy,V,Oo,Oo,hs,below_drewN I _⟩,rfl⟩
 case measure=>simpa[intOf]using a3
theorem J5(a b g:Int)(w:World)(M:-9000000000000000000<=a)(I:a<=9000000000000000000)(hb:-9000000000000000000<=b)(K:b<=9000000000000000000)(O:(Int.gcd a b:Int)=g):
 Cl 179 #[ai a,ai b] w λe w'=>e=.returned (ai g)/\Bl w w':=by
 subst O;exact qDA a b w M I hb K
theorem xO{W w1:World}(hb:Bl W w1):(∀b o,b<W.1.size->w1.cell? (az b o)=W.cell? (az b o))/\(∀b o,b<W.1.size->w1.frozen? (az b o)=W.frozen? (az b o)):=
 ⟨λb o h=>hb.cell (p:=(az b o)) h,λb o h=>hb.frozen (p:=(az b o)) h⟩
theorem below_alloc1{w w':World}{o:Obj}(hb:Below (w.alloc o).1.size (w.alloc o) w'):Bl w w':=
 (aK).trans (hb.mono Ss)
theorem ZW(n g:Int)(K:-9000000000000000000<=n)(I:n<=9000000000000000000):-9000000000000000000<=n.tdiv g/\n.tdiv g<=9000000000000000000:=by
 have:=RatM.tdiv_abs_le n g;omega
theorem xy(n d:Int)(w:World)(hn:-9000000000000000000<=n)(V:n<=9000000000000000000)(hd:-9000000000000000000<=d)(a3:d<=9000000000000000000)(h0:d≠0):
 Cl 180 #[ai n,ai d] w λe w'=>e=.returned (.agg #[ai (RatM.frN n d),ai (RatM.frD n d)])/\Bl w w':=by
 have a4:=RatM.gcd_pos n d h0;obtain⟨q1,q2⟩:=ZW n (Int.gcd n d) hn V;obtain⟨q3,q4⟩:=ZW d (Int.gcd n d) hd a3;by_cases I:d<0
 ·have M:RatM.frN n d=-(n.tdiv (Int.gcd n d)):=by unfold RatM.frN;rw[if_pos I,Int.neg_tdiv]
  have O:RatM.frD n d=-(d.tdiv (Int.gcd n d)):=by unfold RatM.frD;rw[if_pos I,Int.neg_tdiv]
  rw[M,O];clear M O;have HG:Hh ((Int.gcd (-n) (-d):Int)=(Int.gcd n d:Int)):=by rw[RatM.gcd_neg_neg];exact rfl
  generalize (Int.gcd n d:Int)=g at *;have a5:(g == 0)=false:=Sy;go_enter Tryz.func180,Tryz.ntmps180;go_wp2_with fail;refine(J5 (-n) (-d) g _ Oo Oo Oo Oo HG.o).mono ?_;rintro e w' ⟨rfl,hb⟩;obtain⟨U,hf⟩:=xO hb;have c0:w'.cell? (az w.1.size 0)=some (ai 0):=(U _ 0 Ss).trans Sg;have c1:w'.cell? (az w.1.size 1)=some (ai 0):=(U _ 1 Ss).trans Sg;have hz:=hb.size;simp at hz;go_wp2_with fail;go_region
  go_wp2;refine bodyPost_ret (v:=.agg #[ai _,ai _]) (by simp[results,Tryz.results180,go_sem,c0,c1];exact⟨rfl,rfl⟩) rfl ?_;exact⟨rfl,((((below_alloc1 hb).setCell (nR _) _).setCell (nR _) _)).drew⟩
 have M:RatM.frN n d=n.tdiv (Int.gcd n d):=by unfold RatM.frN;rw[if_neg I]
 have O:RatM.frD n d=d.tdiv (Int.gcd n d):=by unfold RatM.frD;rw[if_neg I]
 rw[M,O];clear M O;obtain⟨g,K⟩:∃g:Int,(Int.gcd n d:Int)=g:=⟨_,rfl⟩;rw[K]at a4 q1 q2 q3 q4 ⊢;have HG:=ay K;clear K;have a5:(g == 0)=false:=Sy;go_enter Tryz.func180,Tryz.ntmps180;go_wp2_with fail;refine(J5 n d g _ Oo Oo Oo Oo HG.o).mono ?_;rintro e w' ⟨rfl,hb⟩;obtain⟨U,hf⟩:=xO hb;have c0:w'.cell? (az w.1.size 0)=some (ai 0):=(U _ 0 Ss).trans Sg;have c1:w'.cell? (az w.1.size 1)=some (ai 0):=(U _ 1 Ss).trans Sg;have hz:=hb.size;simp at hz;go_wp2_with fail;go_region
 go_wp2;refine bodyPost_ret (v:=.agg #[ai _,ai _]) (by simp[results,Tryz.results180,go_sem,c0,c1];exact⟨rfl,rfl⟩) rfl ?_;exact⟨rfl,((((below_alloc1 hb).setCell (nR _) _).setCell (nR _) _)).drew⟩
theorem qB7(n:Int)(w:World)(I:-1000000<=n)(K:n<=1000000):
 Cl 169 #[ai n] w λe w'=>e=.returned (.bool true)/\w'=w:=by
 go_enter Tryz.func169,Tryz.ntmps169;go_wp2;go_ret;exact⟨rfl,rfl⟩
theorem Vr(n d:Int)(w:World)(I:-1000000<=n)(K:n<=1000000)(M:-1000000<=d)(O:d<=1000000):
 Cl 143 #[.agg #[ai n,ai d]] w λe w'=>e=.returned (.agg #[ai n,ai d])/\Bl w w':=by
 go_enter Tryz.func143,Tryz.ntmps143;go_wp2;refine bodyPost_ret (v:=.agg #[ai n,ai d]) (by simp[results,Tryz.results143,go_sem]) rfl ⟨rfl,?_⟩;go_grown
theorem jo(n:Int)(w:World)(I:-9000000000000000000<=n)(K:n<=9000000000000000000):
 Cl 216 #[ai n] w λe w'=>e=.returned (ai n.natAbs)/\w'=w:=by
 by_cases h:n<0
 ·go_enter Tryz.func216,Tryz.ntmps216;go_wp2;go_ret;exact⟨qR Oo,rfl⟩
 go_enter Tryz.func216,Tryz.ntmps216;go_wp2;go_ret;exact⟨qR Oo,rfl⟩
theorem YI:∀(k:Nat) (a b:Int) (w:World),b.natAbs<k->0<=a->a<=9000000000000000000->0<=b->b<=9000000000000000000->
 Cl 215 #[ai a,ai b] w λe w'=>e=.returned (ai (Int.gcd a b))/\w'=w
 |0,_,_,_,h,_,_,_,_=>absurd h Oo
 |k+1,a,b,w,hk,ha,ha',hb,hb'=>by
  by_cases h:b=0
  ·subst h;have O:=ay (RatM.gcd_zero a);go_enter Tryz.func215,Tryz.ntmps215;go_wp2;go_ret;exact⟨qR (by rw[O.o];omega),rfl⟩
  have U:(b == 0)=false:=by simpa using h
  have M:a.tmod b=a % b:=Int.tmod_eq_emod_of_nonneg ha;have K:=RatM.natAbs_tmod_lt a b h;have hs:=RatM.gcd_step a b;have I:0<=a.tmod b:=Int.tmod_nonneg _ ha;rw[M]at K hs I;clear M;have V:=ay hs;clear hs;have IH:=ay (YI k b (a % b) w Oo hb hb' I Oo);go_enter Tryz.func215,Tryz.ntmps215;go_wp2_with fail;refine IH.o.mono ?_;rintro e w' ⟨rfl,rfl⟩;go_wp2;go_ret;exact⟨qR (by rw[V.o]),rfl⟩
theorem qBE(a b g:Int)(w:World)(M:0<=a)(I:a<=9000000000000000000)(hb:0<=b)(K:b<=9000000000000000000)(O:(Int.gcd a b:Int)=g):
 Cl 215 #[ai a,ai b] w λe w'=>e=.returned (ai g)/\w'=w:=by
 subst O;exact YI (b.natAbs+1) a b w Oo M I hb K
theorem vT(n d:Int)(w:World)(hn:-9000000000000000000<=n)(K:n<=9000000000000000000)(hd:-9000000000000000000<=d)(M:d<=9000000000000000000)(h0:d≠0):
 Cl 201 #[ai n,ai d] w λe w'=>e=.returned (.agg #[ai (RatM.frN n d),ai (RatM.frD n d)])/\Bl w w':=by
 have a4:=RatM.gcd_pos n d h0;have a5:=RatM.gcd_le n d h0;obtain⟨q1,q2⟩:=ZW n (Int.gcd n d) hn K;obtain⟨q3,q4⟩:=ZW d (Int.gcd n d) hd M;have HG:Hh ((Int.gcd (n.natAbs:Int) (d.natAbs:Int):Int)=(Int.gcd n d:Int)):=by rw[RatM.gcd_abs];exact rfl
 by_cases I:d<0
 ·have O:RatM.frN n d=-(n.tdiv (Int.gcd n d)):=by unfold RatM.frN;rw[if_pos I,Int.neg_tdiv]
  have U:RatM.frD n d=-(d.tdiv (Int.gcd n d)):=by unfold RatM.frD;rw[if_pos I,Int.neg_tdiv]
  rw[O,U];clear O U;generalize (Int.gcd n d:Int)=g at *;have a3:(g == 0)=false:=Sy;have V:(-g == 0)=false:=Sy;go_enter Tryz.func201,Tryz.ntmps201;go_wp2_with fail;refine(jo n _ hn K).mono ?_;rintro e w1 ⟨rfl,rfl⟩;go_wp2_with fail;refine(jo d _ hd M).mono ?_;rintro e w1 ⟨rfl,rfl⟩;go_wp2_with fail;refine(qBE _ _ g _ Oo Oo Oo Oo HG.o).mono ?_;rintro e w1 ⟨rfl,rfl⟩;go_wp2;go_region
  go_wp2;refine bodyPost_ret (v:=.agg #[ai _,ai _]) (by simp[results,Tryz.results201,go_sem]) rfl ⟨rfl,?_⟩;go_grown
 have O:RatM.frN n d=n.tdiv (Int.gcd n d):=by unfold RatM.frN;rw[if_neg I]
 have U:RatM.frD n d=d.tdiv (Int.gcd n d):=by unfold RatM.frD;rw[if_neg I]
 rw[O,U];clear O U;generalize (Int.gcd n d:Int)=g at *;have a3:(g == 0)=false:=Sy;have V:(-g == 0)=false:=Sy;go_enter Tryz.func201,Tryz.ntmps201;go_wp2_with fail;refine(jo n _ hn K).mono ?_;rintro e w1 ⟨rfl,rfl⟩;go_wp2_with fail;refine(jo d _ hd M).mono ?_;rintro e w1 ⟨rfl,rfl⟩;go_wp2_with fail;refine(qBE _ _ g _ Oo Oo Oo Oo HG.o).mono ?_;rintro e w1 ⟨rfl,rfl⟩;go_wp2;go_region
 go_wp2;refine bodyPost_ret (v:=.agg #[ai _,ai _]) (by simp[results,Tryz.results201,go_sem]) rfl ⟨rfl,?_⟩;go_grown
theorem zN(x lo hi:Int)(w:World)(I:lo<=x)(K:x<=hi):
 Cl 87 #[ai x,ai lo,ai hi] w λe w'=>e=.returned (.bool true)/\w'=w:=by
 go_enter Tryz.func87,Tryz.ntmps87;go_wp2;go_ret;exact⟨rfl,rfl⟩
theorem YJ(n d:Int)(w:World):
 Cl 37 #[.agg #[ai n,ai d],.agg #[ai n,ai d]] w λe w'=>e=.returned (.bool true)/\Bl w w':=by
 have I:(n != n)=false:=Ss;have K:(d != d)=false:=Ss;go_enter Tryz.func37,Tryz.ntmps37;go_wp2;go_ret;exact⟨rfl,by go_grown⟩
theorem bt{a b c:World}(h:Bl a b)(k:Bl b c):Bl a c:=h.trans (k.mono h.size)
def OkR(n d:Int):Prop:=1<=d/\d<=1000000/\-1000000<=n/\n<=1000000/\Int.gcd n d=1
theorem jq(n d:Int)(w:World)(h:OkR n d):
 Cl 149 #[.agg #[ai n,ai d]] w λe w'=>e=.returned (.bool true)/\Bl w w':=by
 obtain⟨M,O,U,V,I⟩:=h;have K:Hh ((Int.gcd n d:Int)=1):=by rw[I];exact rfl
 clear I;go_enter Tryz.func149,Tryz.ntmps149;go_wp2_with (first|(go_at_call 169;refine(qB7 _ _ (by assumption) (by assumption)).mono ?_;rintro e w' ⟨rfl,rfl⟩)|(go_at_call 179;refine(J5 n d 1 _ Oo Oo Oo Oo K.o).mono ?_;rintro e w' ⟨rfl,hb⟩));go_ret;exact⟨rfl,below_alloc1 hb⟩
theorem yg(x lo hi:Int)(w:World)(I:x<lo):
 Cl 87 #[ai x,ai lo,ai hi] w λe w'=>e=.returned (.bool false)/\w'=w:=by
 have K:decide (lo<=x)=false:=Sy;go_enter Tryz.func87,Tryz.ntmps87;go_wp2;go_ret;exact⟨rfl,rfl⟩
theorem yh(x lo hi:Int)(w:World)(I:lo<=x)(K:hi<x):
 Cl 87 #[ai x,ai lo,ai hi] w λe w'=>e=.returned (.bool false)/\w'=w:=by
 have M:decide (x<=hi)=false:=Sy;go_enter Tryz.func87,Tryz.ntmps87;go_wp2;go_ret;exact⟨rfl,rfl⟩
theorem qGl(a b B C:Int)(I:-B<=a)(K:a<=B)(M:-C<=b)(O:b<=C):-(B*C)<=a*b/\a*b<=B*C:=by
 have e:(a*b).natAbs=a.natAbs*b.natAbs:=Int.natAbs_mul a b;have U:a.natAbs*b.natAbs<=B.natAbs*C.natAbs:=Nat.mul_le_mul Oo Oo;have V:B*C=((B.natAbs*C.natAbs:Nat):Int):=by
  rw[Int.natCast_mul,show(B.natAbs:Int)=B by omega,show(C.natAbs:Int)=C by omega]
 omega
theorem VB(a b:Int)(I:-1000000<=a)(K:a<=1000000)(M:-1000000<=b)(O:b<=1000000):-1000000000000<=a*b/\a*b<=1000000000000:=
 qGl a b 1000000 1000000 I K M O
theorem below_alloc3{w w':World}{o p q:Obj}(hb:Below (((w.alloc o).alloc p).alloc q).1.size (((w.alloc o).alloc p).alloc q) w'):Bl w w':=
 (((aK).alloc Ss _).alloc Sy _).trans (hb.mono Sy)
theorem below_alloc2{w w':World}{o p:Obj}(hb:Below ((w.alloc o).alloc p).1.size ((w.alloc o).alloc p) w'):Bl w w':=
 ((aK).alloc Ss _).trans (hb.mono Sy)
def PlC(f:Nat):Prop:=∀(a b c d:Int) (w:World),-4500000000000000000<=a*d->a*d<=4500000000000000000->-4500000000000000000<=c*b->c*b<=4500000000000000000->-4500000000000000000<=b*d->b*d<=4500000000000000000->b*d≠0->Cl f #[.agg #[ai a,ai b],.agg #[ai c,ai d]] w λe w'=>e=.returned (.agg #[ai (RatM.frN (a*d+c*b) (b*d)),ai (RatM.frD (a*d+c*b) (b*d))])/\Bl w w'
theorem PlC.both:PlC 178/\PlC 165:=by
 refine⟨λa b c d w V I m2 K m3 M O=>?_,λa b c d w V I m2 K m3 M O=>?_⟩;focus
  go_enter Tryz.func178,Tryz.ntmps178
  go_wp2_with fail
  refine(xy _ _ _ Oo Oo Oo Oo O).mono ?_
 rotate_left;focus
  go_enter Tryz.func165,Tryz.ntmps165
  go_wp2_with fail
  refine(vT _ _ _ Oo Oo Oo Oo O).mono ?_
 all_goals
  rintro e w1 ⟨rfl,hb⟩
  obtain⟨U,hf⟩:=xO hb
  have c0:w1.cell? (az (w.1.size+1+1) 0)=some (ai 0):=(U _ 0 Ss).trans Sg
  have c1:w1.cell? (az (w.1.size+1+1) 1)=some (ai 0):=(U _ 1 Ss).trans Sg
  go_wp2
  refine bodyPost_ret (v:=.agg #[ai _,ai _]) (by simp[results,Tryz.results178,Tryz.results165,go_sem,c0,c1]) rfl ⟨rfl,?_⟩
  exact((below_alloc3 hb).setCell Sy _).setCell Sy _
theorem YK:PlC 178:=PlC.both.1
theorem qAd:PlC 165:=PlC.both.2
def MiC(f:Nat):Prop:=∀(a b c d:Int) (w:World),-4500000000000000000<=a*d->a*d<=4500000000000000000->-4500000000000000000<=c*b->c*b<=4500000000000000000->-4500000000000000000<=b*d->b*d<=4500000000000000000->b*d≠0->Cl f #[.agg #[ai a,ai b],.agg #[ai c,ai d]] w λe w'=>e=.returned (.agg #[ai (RatM.frN (a*d-c*b) (b*d)),ai (RatM.frD (a*d-c*b) (b*d))])/\Bl w w'
theorem MiC.both:MiC 150/\MiC 204:=by
 refine⟨λa b c d w V I m2 K m3 M O=>?_,λa b c d w V I m2 K m3 M O=>?_⟩;focus
  go_enter Tryz.func150,Tryz.ntmps150
  go_wp2_with fail
  refine(xy _ _ _ Oo Oo Oo Oo O).mono ?_
 rotate_left;focus
  go_enter Tryz.func204,Tryz.ntmps204
  go_wp2_with fail
  refine(vT _ _ _ Oo Oo Oo Oo O).mono ?_
 all_goals
  rintro e w1 ⟨rfl,hb⟩
  obtain⟨U,hf⟩:=xO hb
  have c0:w1.cell? (az (w.1.size+1+1) 0)=some (ai 0):=(U _ 0 Ss).trans Sg
  have c1:w1.cell? (az (w.1.size+1+1) 1)=some (ai 0):=(U _ 1 Ss).trans Sg
  go_wp2
  refine bodyPost_ret (v:=.agg #[ai _,ai _]) (by simp[results,Tryz.results150,Tryz.results204,go_sem,c0,c1]) rfl ⟨rfl,?_⟩
  exact((below_alloc3 hb).setCell Sy _).setCell Sy _
theorem Zy:MiC 150:=MiC.both.1
theorem J6:MiC 204:=MiC.both.2
def TiC(f:Nat):Prop:=∀(a b c d:Int) (w:World),-4500000000000000000<=a*c->a*c<=4500000000000000000->-4500000000000000000<=b*d->b*d<=4500000000000000000->b*d≠0->Cl f #[.agg #[ai a,ai b],.agg #[ai c,ai d]] w λe w'=>e=.returned (.agg #[ai (RatM.frN (a*c) (b*d)),ai (RatM.frD (a*c) (b*d))])/\Bl w w'
theorem TiC.both:TiC 235/\TiC 205:=by
 refine⟨λa b c d w U I V K M=>?_,λa b c d w U I V K M=>?_⟩;focus
  go_enter Tryz.func235,Tryz.ntmps235
  go_wp2_with fail
  refine(xy _ _ _ Oo Oo Oo Oo M).mono ?_
 rotate_left;focus
  go_enter Tryz.func205,Tryz.ntmps205
  go_wp2_with fail
  refine(vT _ _ _ Oo Oo Oo Oo M).mono ?_
 all_goals
  rintro e w1 ⟨rfl,hb⟩
  obtain⟨O,hf⟩:=xO hb
  have c0:w1.cell? (az (w.1.size+1+1) 0)=some (ai 0):=(O _ 0 Ss).trans Sg
  have c1:w1.cell? (az (w.1.size+1+1) 1)=some (ai 0):=(O _ 1 Ss).trans Sg
  go_wp2
  refine bodyPost_ret (v:=.agg #[ai _,ai _]) (by simp[results,Tryz.results235,Tryz.results205,go_sem,c0,c1]) rfl ⟨rfl,?_⟩
  exact((below_alloc3 hb).setCell Sy _).setCell Sy _
theorem qAe:TiC 235:=TiC.both.1
theorem J7:TiC 205:=TiC.both.2
theorem qB8(a b c d:Int)(w:World)(U:-4500000000000000000<=a*d)(K:a*d<=4500000000000000000)(V:-4500000000000000000<=b*c)(M:b*c<=4500000000000000000)(O:b*c≠0):
 Cl 234 #[.agg #[ai a,ai b],.agg #[ai c,ai d]] w λe w'=>e=.returned (.agg #[ai (RatM.frN (a*d) (b*c)),ai (RatM.frD (a*d) (b*c))])/\Bl w w':=by
 go_enter Tryz.func234,Tryz.ntmps234;go_wp2_with fail;refine(xy _ _ _ Oo Oo Oo Oo O).mono ?_;rintro e w1 ⟨rfl,hb⟩;obtain⟨I,hf⟩:=xO hb;have c0:w1.cell? (az (w.1.size+1+1) 0)=some (ai 0):=(I _ 0 Ss).trans Sg;have c1:w1.cell? (az (w.1.size+1+1) 1)=some (ai 0):=(I _ 1 Ss).trans Sg;go_wp2;refine bodyPost_ret (v:=.agg #[ai _,ai _]) (by simp[results,Tryz.results234,go_sem,c0,c1]) rfl ⟨rfl,?_⟩;exact((below_alloc3 hb).setCell Sy _).setCell Sy _
theorem qAf(a b c d:Int)(w:World)(U:-4500000000000000000<=a*d)(K:a*d<=4500000000000000000)(V:-4500000000000000000<=b*c)(M:b*c<=4500000000000000000)(O:b*c≠0):
 Cl 203 #[.agg #[ai a,ai b],.agg #[ai c,ai d]] w λe w'=>e=.returned (.agg #[ai (RatM.frN (a*d) (b*c)),ai (RatM.frD (a*d) (b*c))])/\Bl w w':=by
 go_enter Tryz.func203,Tryz.ntmps203;go_wp2_with fail;refine(vT _ _ _ Oo Oo Oo Oo O).mono ?_;rintro e w1 ⟨rfl,hb⟩;obtain⟨I,hf⟩:=xO hb;have c0:w1.cell? (az (w.1.size+1+1) 0)=some (ai 0):=(I _ 0 Ss).trans Sg;have c1:w1.cell? (az (w.1.size+1+1) 1)=some (ai 0):=(I _ 1 Ss).trans Sg;go_wp2;refine bodyPost_ret (v:=.agg #[ai _,ai _]) (by simp[results,Tryz.results203,go_sem,c0,c1]) rfl ⟨rfl,?_⟩;exact((below_alloc3 hb).setCell Sy _).setCell Sy _
theorem YL(n d:Int)(w:World):
 Cl 151 #[.agg #[ai n,ai d]] w λe w'=>e=.returned (ai (RatM.sgn n))/\Bl w w':=by
 go_enter Tryz.func151,Tryz.ntmps151;go_wp2;all_goals
  go_ret
  exact⟨qR (by unfold RatM.sgn;repeat' split;all_goals omega),by go_grown⟩
theorem qAg(a b c d:Int)(w:World)(M:-4500000000000000000<=a*d)(I:a*d<=4500000000000000000)(O:-4500000000000000000<=c*b)(K:c*b<=4500000000000000000):
 Cl 118 #[.agg #[ai a,ai b],.agg #[ai c,ai d]] w λe w'=>e=.returned (.bool (decide (a*d<c*b)))/\Bl w w':=by
 go_enter Tryz.func118,Tryz.ntmps118;go_wp2;go_ret;exact⟨rfl,by go_grown⟩
theorem qBF(a b c d:Int)(h:OkR a b)(M:OkR c d):
 (-1000000000000<=a*d/\a*d<=1000000000000)/\(-1000000000000<=c*b/\c*b<=1000000000000)/\(0<b*d/\b*d<=1000000000000):=by
 obtain⟨h1,I,O,U,_⟩:=h;obtain⟨k1,K,V,k4,_⟩:=M;exact⟨VB a d O U Oo K,VB c b V k4 Oo I,Int.mul_pos Oo Oo,(VB b d Oo I Oo K).2⟩
theorem qGm(n d:Int)(I:0<d):OkR (RatM.frN n d) (RatM.frD n d)↔(-1000000<=RatM.frN n d/\RatM.frN n d<=1000000/\-1000000<=RatM.frD n d/\RatM.frD n d<=1000000):=by
 have K:=RatM.frD_pos n d Oo;have M:=RatM.fr_coprime n d Oo;unfold OkR;omega
theorem qEP(a b c d:Int)(w:World)(h:OkR a b)(h':OkR c d)(hs:OkR (RatM.frN (a*d+c*b) (b*d)) (RatM.frD (a*d+c*b) (b*d))):
 Cl 148 #[.agg #[ai a,ai b],.agg #[ai c,ai d]] w λe w'=>e=.returned (.agg #[ai (RatM.frN (a*d+c*b) (b*d)),ai (RatM.frD (a*d+c*b) (b*d))])/\Bl w w':=by
 obtain⟨⟨m1,a8⟩,⟨m2,a9⟩,m3,b0⟩:=qBF a b c d h h';have H:=ay h;have H':=ay h';clear h h';rw[qGm _ _ m3]at hs;obtain⟨x,U⟩:=Ex (RatM.frN (a*d+c*b) (b*d));obtain⟨y,V⟩:=Ex (RatM.frD (a*d+c*b) (b*d));rw[<-U,<-V]at hs;rw[<-U,<-V];obtain⟨p1,p2,p3,p4⟩:=hs;have PL:Hh (∀w,Cl 178 #[.agg #[ai a,ai b],.agg #[ai c,ai d]] w λe w'=>e=.returned (.agg #[ai x,ai y])/\Bl w w'):=by
  intro w;rw[U,V];exact YK a b c d w Oo Oo Oo Oo Oo Oo Oo
 clear U V;go_enter Tryz.func148,Tryz.ntmps148;go_wp2_with fail;refine(jq a b _ H.o).mono ?_;rintro e w1 ⟨rfl,M⟩;obtain⟨K,a3⟩:=xO M;have d0:w1.cell? (az (w.1.size+1) 0)=some (ai c):=(K _ 0 Ss).trans Sg;have d1:w1.cell? (az (w.1.size+1) 1)=some (ai d):=(K _ 1 Ss).trans Sg;clear K a3;go_wp2_with fail;refine(jq c d _ H'.o).mono ?_;rintro e w2 ⟨rfl,a4⟩;have O:=bt M a4;obtain⟨I,a5⟩:=xO O;have d2:w2.cell? (az (w.1.size+1) 0)=some (ai c):=(I _ 0 Ss).trans Sg;have d3:w2.cell? (az (w.1.size+1) 1)=some (ai d):=(I _ 1 Ss).trans Sg;have d4:w2.cell? (az w.1.size 0)=some (ai a):=(I _ 0 Sy).trans Sg;have d5:w2.cell? (az w.1.size 1)=some (ai b):=(I _ 1 Sy).trans Sg;clear I a5;go_wp2_with fail;refine(PL.o _).mono ?_;rintro e w4 ⟨rfl,a6⟩;go_wp2_with fail;refine(Vr x y _ p1 p2 p3 p4).mono ?_;rintro e wE ⟨rfl,a7⟩;have hb:=bt (bt O a6) a7;obtain⟨hc,hf⟩:=xO hb;have c0:wE.cell? (az (w.1.size+1+1) 0)=some (ai 0):=(hc _ 0 Ss).trans Sg;have c1:wE.cell? (az (w.1.size+1+1) 1)=some (ai 0):=(hc _ 1 Ss).trans Sg;go_wp2;refine bodyPost_ret (v:=.agg #[ai _,ai _]) (by simp[results,Tryz.results148,go_sem,c0,c1]) rfl ⟨rfl,?_⟩;exact((below_alloc3 hb).setCell Sy _).setCell Sy _
theorem Zz(n d:Int)(w:World):
 Cl 28 #[.agg #[ai n,ai d]] w λe w'=>e=.returned (.agg #[ai n,ai d])/\Bl w w':=by
 go_enter Tryz.func28,Tryz.ntmps28;go_wp2;refine bodyPost_ret (v:=.agg #[ai n,ai d]) (by simp[results,Tryz.results28,go_sem]) rfl ⟨rfl,?_⟩;go_grown
theorem J8(a b c d:Int)(w:World)(h:OkR a b)(U:OkR c d):
 Cl 125 #[.agg #[ai a,ai b],.agg #[ai c,ai d]] w λe w'=>e=.returned (ai (RatM.sgn (a*d-c*b)))/\Bl w w':=by
 obtain⟨⟨m1,a8⟩,⟨m2,a9⟩,m3,b0⟩:=qBF a b c d h U;have H:=ay h;have H':=ay U;clear h U;obtain⟨x,V⟩:=Ex (RatM.frN (a*d-c*b) (b*d));obtain⟨y,hy⟩:=Ex (RatM.frD (a*d-c*b) (b*d));have PL:Hh (∀w,Cl 150 #[.agg #[ai a,ai b],.agg #[ai c,ai d]] w λe w'=>e=.returned (.agg #[ai x,ai y])/\Bl w w'):=by
  intro w;rw[V,hy];exact Zy a b c d w Oo Oo Oo Oo Oo Oo Oo
 have HR:=ay (RatM.sgn_congr x (a*d-c*b) (by rw[V];exact RatM.frN_sign (a*d-c*b) (b*d) m3));clear V hy;go_enter Tryz.func125,Tryz.ntmps125;go_wp2_with fail;refine(jq a b _ H.o).mono ?_;rintro e w1 ⟨rfl,M⟩;obtain⟨K,a3⟩:=xO M;have d0:w1.cell? (az (w.1.size+1) 0)=some (ai c):=(K _ 0 Ss).trans Sg;have d1:w1.cell? (az (w.1.size+1) 1)=some (ai d):=(K _ 1 Ss).trans Sg;clear K a3;go_wp2_with fail;refine(jq c d _ H'.o).mono ?_;rintro e w2 ⟨rfl,a4⟩;have O:=bt M a4;obtain⟨I,a5⟩:=xO O;have d2:w2.cell? (az (w.1.size+1) 0)=some (ai c):=(I _ 0 Ss).trans Sg;have d3:w2.cell? (az (w.1.size+1) 1)=some (ai d):=(I _ 1 Ss).trans Sg;have d4:w2.cell? (az w.1.size 0)=some (ai a):=(I _ 0 Sy).trans Sg;have d5:w2.cell? (az w.1.size 1)=some (ai b):=(I _ 1 Sy).trans Sg;clear I a5;go_wp2_with fail;refine(PL.o _).mono ?_;rintro e w4 ⟨rfl,a6⟩;go_wp2_with fail;refine(YL x y _).mono ?_;rintro e wE ⟨rfl,a7⟩;go_wp2;go_ret;exact⟨qR HR.o,below_alloc2 (bt (bt O a6) a7)⟩
end Go.Proofs.YtcnfapnfmnolbaaGreat
namespace Go.Proofs.YtcnfapnfmnolbaaGreat.Cov
structure Dm where
 a:Nat->Rat
 up:Bool
 b:Rat
def Dm.at(n:Nat)(D:Dm)(x:Nat->Rat):Rat:=sm n (λi=>D.a i*x i)
def Dm.meets(n:Nat)(D:Dm)(x:Nat->Rat):Prop:=if D.up then D.at n x<=D.b else D.b<=D.at n x
def Kern(n:Nat)(S:List Dm):Prop:=∀d:Nat->Rat,(∀D∈S,D.at n d=0)->∀i,i<n->d i=0
theorem ZO:∀(k a:Nat) (f:Nat->Rat),a<k+1->sm (k+1) f=f a+sm k (λb=>f (skip a b))
 |k,a,f,h=>by
  by_cases e:a=k;subst e;show sm a f+f a=f a+sm a (λb=>f (skip a b));have:sm a f=sm a (λb=>f (skip a b)):=sm_congr (λi hi=>by rw[show skip a i=i from if_pos hi]);rw[<-this];grind;obtain⟨I,rfl⟩:∃I,k=I+1:=⟨k-1,Oo⟩;have K:=ZO I a f Oo;show sm (I+1) f+f (I+1)=f a+(sm I (λb=>f (skip a b))+f (skip a I));rw[K,show skip a I=I+1 from if_neg Oo];grind
theorem Zp(a b:Nat):qx a (skip a b)=b:=by
 by_cases e:b<a;rw[show skip a b=b from if_pos e];exact if_pos e;rw[show skip a b=b+1 from if_neg e,show qx a (b+1)=b+1-1 from if_neg Oo];omega
theorem jK(n:Nat)(D:Dm)(x y:Nat->Rat)(t:Rat):D.at n (λi=>x i+t*y i)=D.at n x+t*D.at n y:=by
 unfold Dm.at;have e:(λi=>D.a i*(x i+t*y i))=λi=>D.a i*x i+t*(D.a i*y i):=by funext i;grind
 rw[e,sm_add,sm_mul]
theorem qGQ(n k:Nat)(D:Dm)(c:Nat->Rat)(E:Nat->Nat->Rat):D.at n (λi=>sm k (λa=>c a*E a i))=sm k (λa=>c a*D.at n (E a)):=by
 unfold Dm.at;have e:sm n (λi=>D.a i*sm k (λa=>c a*E a i))=sm n (λi=>sm k (λa=>c a*(D.a i*E a i))):=by
  refine sm_congr (λi _=>?_);rw[<-sm_mul];exact sm_congr (λa _=>Rr)
 rw[e,uy];exact sm_congr (λa _=>sm_mul _ _ _)
theorem at_congr{n:Nat}(D:Dm){x y:Nat->Rat}(h:∀i,i<n->x i=y i):D.at n x=D.at n y:=
 sm_congr (λi hi=>by rw[h i hi])
structure Compl(n:Nat)(L S:List Dm)(k:Nat)(E:Nat->Nat->Rat):Prop where
 len:S.length+k=n
 sub:S.Sublist L
 orth:∀D∈L,∀a,a<k->D.at n (E a)=0
 span:∀d:Nat->Rat,(∀D∈S,D.at n d=0)->∃c:Nat->Rat,∀i,i<n->d i=sm k (λa=>c a*E a i)
 indep:∀c:Nat->Rat,(∀i,i<n->sm k (λa=>c a*E a i)=0)->∀a,a<k->c a=0
theorem Qg(n:Nat):∀L:List Dm,∃S k E,Compl n L S k E
 |[]=>by
  refine⟨[],n,λa i=>if a=i then 1 else 0,Ss,List.Sublist.slnil,Ss,λd _=>⟨d,λi hi=>?_⟩,λc h a ha=>?_⟩;rw[jI hi];grind;have:=h a ha;rw[jI ha]at this;grind
 |D::L=>by
  obtain⟨S,k,E,h⟩:=Qg n L;by_cases hz:∀a,a<k->D.at n (E a)=0
  ·refine⟨S,k,E,h.len,h.sub.cons D,λU I=>?_,h.span,h.indep⟩;rcases List.mem_cons.1 I with rfl|I;exact hz;exact h.orth U I
  obtain⟨a0,a3⟩:=Classical.not_forall.1 hz;obtain⟨M,a4⟩:=Classical.not_imp.1 a3;obtain⟨K,rfl⟩:∃K,k=K+1:=⟨k-1,Oo⟩;have V:∀b,b<K->skip a0 b<K+1:=λb hb=>by unfold skip;split <;> omega
  refine⟨D::S,K,λb i=>E (skip a0 b) i+(-(D.at n (E (skip a0 b)) / D.at n (E a0)))*E a0 i,by have:=h.len;simp;omega,h.sub.cons_cons D,λU I b hb=>?_,λd hd=>?_,λc hc b hb=>?_⟩
  ·rw[jK];rcases List.mem_cons.1 I with rfl|I;grind;rw[h.orth U I _ (V b hb),h.orth U I a0 M];grind
  ·obtain⟨c,hc⟩:=h.span d (λU I=>hd U (mC _ I));refine⟨λb=>c (skip a0 b),λi hi=>?_⟩;have h0:c a0*D.at n (E a0)+sm K (λb=>c (skip a0 b)*D.at n (E (skip a0 b)))=0:=by
    rw[<-ZO K a0 (λa=>c a*D.at n (E a)) M,<-qGQ,<-at_congr D hc];exact hd D List.mem_cons_self
   rw[hc i hi,ZO K a0 _ M];have e1:(λb=>c (skip a0 b)*(E (skip a0 b) i+(-(D.at n (E (skip a0 b)) / D.at n (E a0)))*E a0 i))=λb=>c (skip a0 b)*E (skip a0 b) i+(-(E a0 i / D.at n (E a0)))*(c (skip a0 b)*D.at n (E (skip a0 b))):=by funext b;grind
   rw[e1,sm_add,sm_mul];grind
  have O:=h.indep (λa=>if a=a0 then -(sm K (λb=>c b*D.at n (E (skip a0 b)))) / D.at n (E a0) else c (qx a0 a)) (λi hi=>by
   rw[ZO K a0 _ M,if_pos rfl];have e1:sm K (λb=>(if skip a0 b=a0 then -(sm K (λb=>c b*D.at n (E (skip a0 b)))) / D.at n (E a0) else c (qx a0 (skip a0 b)))*E (skip a0 b) i)=sm K (λb=>c b*E (skip a0 b) i):=by
    refine sm_congr (λb _=>?_);rw[if_neg (by unfold skip;split <;> omega),Zp a0 b]
   rw[e1];have h2:=hc i hi;have e2:(λb=>c b*(E (skip a0 b) i+(-(D.at n (E (skip a0 b)) / D.at n (E a0)))*E a0 i))=λb=>c b*E (skip a0 b) i+(-(E a0 i / D.at n (E a0)))*(c b*D.at n (E (skip a0 b))):=by funext b;grind
   rw[e2,sm_add,sm_mul]at h2;grind) (skip a0 b) (V b hb)
  rw[if_neg (by unfold skip;split <;> omega),Zp a0 b]at O;exact O
theorem sq_nonneg(g:Rat):0<=g*g:=by
 by_cases h:0<=g;exact Rat.mul_nonneg h h;exact um Rr Rr
theorem qEp(g:Rat):g<=g*g+1:=by
 have I:=sq_nonneg g;by_cases h:g<=1;grind;have:=Rat.mul_nonneg (show 0<=g by grind) (show 0<=g-1 by grind);grind
theorem Xo{t s g:Rat}(I:0<=t)(K:t<=s / (g*g+1)):t*g<=s/\t*(-g)<=s:=by
 have M:=sq_nonneg g;have O:=Rat.mul_nonneg (show 0<=s / (g*g+1)-t by grind) (show 0<=g*g+1 by grind);have U:s / (g*g+1)*(g*g+1)=s:=Rr;have V:=Rat.mul_nonneg I (show 0<=g*g+1-g by have:=qEp g;grind);have h4:=Rat.mul_nonneg I (show 0<=g*g+1+g by have:=qEp (-g);grind);constructor <;> grind
theorem Xp(n:Nat)(d x:Nat->Rat):∀L:List Dm,(∀D∈L,D.meets n x/\(D.at n x=D.b->D.at n d=0))->
 ∃t:Rat,0<t/\∀t',0<=t'->t'<=t->∀D∈L,D.meets n (λi=>x i+t'*d i)/\D.meets n (λi=>x i+(-t')*d i)
 |[],_=>⟨1,Dd,Ss⟩
 |D::L,h=>by
  obtain⟨t,ht,hL⟩:=Xp n d x L (λD' I=>h D' (mC _ I));have key:∃M:Rat,0<M/\∀t',0<=t'->t'<=M->D.meets n (λi=>x i+t'*d i)/\D.meets n (λi=>x i+(-t')*d i):=by
   obtain⟨U,h2⟩:=h D List.mem_cons_self;by_cases e:D.at n x=D.b;refine⟨1,Dd,λt' _ _=>?_⟩;unfold Dm.meets;rw[jK,jK,h2 e,e];constructor <;> split <;> grind;unfold Dm.meets at U ⊢;have a3:=sq_nonneg (D.at n d);cases hu:D.up with
   |true=>
    rw[hu]at U;simp only[if_true]at U ⊢;have K:0<D.b-D.at n x:=Rr;refine⟨(D.b-D.at n x) / (D.at n d*D.at n d+1),?_,λt' O V=>?_⟩;rw[Rat.div_def];exact Rat.mul_pos K (Rat.inv_pos.2 Rr);obtain⟨s1,s2⟩:=Xo O V;rw[jK,jK];constructor <;> grind
   |false=>
    rw[hu]at U;simp only[Bool.false_eq_true,if_false]at U ⊢;have K:0<D.at n x-D.b:=Rr;refine⟨(D.at n x-D.b) / (D.at n d*D.at n d+1),?_,λt' O V=>?_⟩;rw[Rat.div_def];exact Rat.mul_pos K (Rat.inv_pos.2 Rr);obtain⟨s1,s2⟩:=Xo O V;rw[jK,jK];constructor <;> grind
  obtain⟨M,a4,hD⟩:=key;refine⟨if t<=M then t else M,by split <;> assumption,λt' O V D' I=>?_⟩;have h5:t'<=t/\t'<=M:=by
   split at V <;> constructor <;> grind
  rcases List.mem_cons.1 I with rfl|I;exact hD t' O h5.2;exact hL t' O h5.1 D' I
theorem U8{t:Rat}(U:0<t):∀(l e:List Rat),l.length=e.length->Lex l (List.zipWith (λa b=>a+t*b) l e)->Lex l (List.zipWith (λa b=>a+(-t)*b) l e)->∀z∈e,z=0
 |[],[],_,_,_,z,M=>by cases M
 |[],_::_,h,_,_,_,_=>by cases h
 |_::_,[],h,_,_,_,_=>by cases h
 |a::l,b::e,hl,h1,h2,z,M=>by
  have I:a<a+t*b∨(a=a+t*b/\Lex l (List.zipWith (λa b=>a+t*b) l e)):=h1;have K:a<a+(-t)*b∨(a=a+(-t)*b/\Lex l (List.zipWith (λa b=>a+(-t)*b) l e)):=h2;have hb:t*b=0/\Lex l (List.zipWith (λa b=>a+t*b) l e)/\Lex l (List.zipWith (λa b=>a+(-t)*b) l e):=by
   rcases I with I|⟨I,V⟩ <;> rcases K with K|⟨K,h4⟩;exfalso;grind;exfalso;grind;exfalso;grind;exact⟨Rr,V,h4⟩
  have O:b=0:=by
   rcases Rat.mul_eq_zero.1 hb.1 with e|e;grind;exact e
  rcases List.mem_cons.1 M with rfl|M;exact O;exact U8 U l e (by simpa using hl) hb.2.1 hb.2.2 z M
theorem zip_map(f:Rat->Rat->Rat)(x d:Nat->Rat):∀R:List Nat,List.zipWith f (R.map x) (R.map d)=R.map λk=>f (x k) (d k)
 |[]=>rfl
 |k::R=>by
  show f (x k) (d k)::List.zipWith f (R.map x) (R.map d)=_;rw[zip_map f x d R];rfl
theorem qE6(v:Rat)(u:Nat)(x d:Nat->Rat)(t:Rat):key v u (λi=>x i+t*d i)=List.zipWith (λa b=>a+t*b) (key v u x) (key v u d):=by
 show(v*sm u (λi=>x i+t*d i))::_=(v*sm u x+t*(v*sm u d))::List.zipWith (λa b=>a+t*b) ((List.range u).map x) ((List.range u).map d);rw[zip_map,sm_add,sm_mul];congr 1;grind
theorem corner_exists{n:Nat}{v:Rat}(all:List Dm)(x:Nat->Rat)(hx:∀D∈all,D.meets n x)(I:∀y,(∀D∈all,D.meets n y)->Lex (key v n x) (key v n y)):
 ∃S:List Dm,S.Sublist all/\S.length=n/\(∀D∈S,D.at n x=D.b)/\Kern n S:=by
 have dec:∀D:Dm,Decidable (D.at n x=D.b):=λD=>Classical.propDecidable _;obtain⟨S,k,E,h⟩:=Qg n (all.filter λD=>@decide (D.at n x=D.b) (dec D));cases k with
 |zero=>
  refine⟨S,h.sub.trans List.filter_sublist,h.len,λD K=>?_,λd hd i hi=>?_⟩;have:=h.sub.subset K;simpa using (List.mem_filter.1 this).2;obtain⟨c,hc⟩:=h.span d hd;exact hc i hi
 |succ k=>
  exfalso;obtain⟨t,ht,O⟩:=Xp n (E 0) x all (λD K=>⟨hx D K,λe=>h.orth D (List.mem_filter.2 ⟨K,by simpa using e⟩) 0 Oo⟩);have U:=I _ (λD K=>(O t Rr Rr D K).1);have V:=I _ (λD K=>(O t Rr Rr D K).2);rw[qE6]at U V;have h3:=U8 ht (key v n x) (key v n (E 0)) (by simp[key]) U V;have h4:∀i,i<n->E 0 i=0:=by
   intro i hi;refine h3 _ ?_;unfold key;exact mC _ (List.mem_map.2 ⟨i,by simpa using hi,rfl⟩)
  have h5:=h.indep (λa=>if a=0 then 1 else 0) (λi hi=>by
   rw[sm_single (k:=0) Oo];rw[h4 i hi];grind;intro a _ M;rw[if_neg M];grind) 0 Oo
  simp at h5
end Go.Proofs.YtcnfapnfmnolbaaGreat.Cov
namespace Go.Proofs.YtcnfapnfmnolbaaGreat.Cov
theorem qCf{m n o:Nat}{A:Nat->Nat->Rat}(ho:o+m<=n)(I:∀i,i<m->∀r,r<m->A (o+i) r=if i=r then 1 else 0):
 Inv m n A (λi j=>A j i) (λi=>o+i):=by
 refine⟨λi hi=>by show o+i<n;omega,λi hi k U=>?_,λj O r K=>?_,?_⟩
 ·show A (o+k) i=_;rw[I k U i hi];by_cases e:i=k;rw[if_pos e,if_pos e.symm];rw[if_neg e,if_neg (λh=>e h.symm)]
 ·show A j r=sm m (λi=>A j i*A (o+i) r);rw[sm_single (k:=r) K];rw[I r K r K,if_pos rfl];grind;intro i hi M;rw[I i hi r K,if_neg M];grind
 rw[je (N:=λj i=>if j=i then 1 else 0) (λj O i hi=>I j O i hi),Ym];grind
def solveA(n:Nat)(R0:Nat->Nat->Rat):Nat->Nat->Rat:=λj r=>if j<n then R0 r j else if j<n+n then (if j-n=r then 1 else 0) else R0 r n
def cl(n j:Nat):Nat:=if j=n then n+n else j
structure GJ(n c:Nat)(R0 R:Nat->Nat->Rat)(T:Nat->Nat->Rat)(B s:Nat->Nat)(piv:Nat->Rat):Prop where
 inv:Inv n (n+n) (solveA n R0) T B
 lt:∀i,i<n->s i<n
 inj:∀i,i<n->∀k,k<n->s i=s k->i=k
 done:∀i,i<c->B (s i)=i
 todo:∀i,c<=i->i<n->B (s i)=n+s i
 rowd:∀i,i<c->∀j,j<=n->R i j=piv i*T (s i) (cl n j)
 rowt:∀i,c<=i->i<n->∀j,j<=n->R i j=T (s i) (cl n j)
 pivne:∀i,i<c->piv i≠0
 pivsm:∀i,i<c->∃D:Int,D≠0/\D.natAbs<=fac n/\Whole (fac n) (piv i*D)
theorem gj_start(n:Nat)(R0:Nat->Nat->Rat):GJ n 0 R0 R0 (λi j=>solveA n R0 j i) (λi=>n+i) (λi=>i) (λ_=>1):=by
 refine⟨qCf (nR _) (λi hi r I=>?_),λi hi=>hi,λi _ k _ h=>h,λi hi=>Oo,λi _ _=>rfl,λi hi=>Oo,λi _ hi j K=>?_,λi hi=>Oo,λi hi=>Oo⟩;unfold solveA;rw[if_neg Oo,if_pos Oo,show n+i-n=i by omega];unfold solveA cl;by_cases e:j=n;rw[if_pos e,if_neg Oo,if_neg Oo,e];rw[if_neg e,if_pos Oo]
def swp(s:Nat->Nat)(c p:Nat):Nat->Nat:=λi=>if i=c then s p else if i=p then s c else s i
def swpR(R:Nat->Nat->Rat)(c p:Nat):Nat->Nat->Rat:=λi=>if i=c then R p else if i=p then R c else R i
def elim(R:Nat->Nat->Rat)(c:Nat):Nat->Nat->Rat:=λi j=>if i=c∨R i c=0∨j<c then R i j else R i j-R i c / R c c*R c j
theorem gj_step{n c p:Nat}{R0 R T:Nat->Nat->Rat}{B s:Nat->Nat}{piv:Nat->Rat}(h:GJ n c R0 R T B s piv)(hw:∀j,j<=n->∀r,r<n->Whole 1 (R0 r j))(a7:c<=p)(hp:p<n)(a8:R p c≠0):
 GJ n (c+1) R0 (elim (swpR R c p) c) (pivT T (s p) c) (pivB B (s p) c) (swp s c p) (λi=>if i=c then T (s p) c else piv i):=by
 have a9:T (s p) c=R p c:=by
  rw[h.rowt p a7 hp c Oo];unfold cl;rw[if_neg Oo]
 have a3:T (s p) c≠0:=by rw[a9];exact a8
 have hc:c<n:=Oo;have M:∀i,i<n->i≠c->swp s c p i≠s p:=by
  intro i hi I e;unfold swp at e;rw[if_neg I]at e;by_cases O:i=p;rw[if_pos O]at e;have:=h.inj c hc p hp e;omega;rw[if_neg O]at e;exact O (h.inj i hi p hp e)
 have V:∀i,i<n->i≠c->∀j,j<=n->swpR R c p i j=(if i<c then piv i else 1)*T (swp s c p i) (cl n j):=by
  intro i hi I j U;unfold swpR swp;rw[if_neg I,if_neg I];by_cases O:i=p;rw[if_pos O,if_pos O,if_neg Oo,h.rowt c Oo hc j U];grind;rw[if_neg O,if_neg O];by_cases e3:i<c;rw[if_pos e3,h.rowd i e3 j U];rw[if_neg e3,h.rowt i Oo hi j U];grind
 have a6:∀j,j<=n->swpR R c p c j=T (s p) (cl n j):=by
  intro j U;unfold swpR;rw[if_pos rfl,h.rowt p a7 hp j U]
 have a4:cl n c=c:=if_neg Oo;have a5:∀i,i<n->i≠c->∀j,j<=n->elim (swpR R c p) c i j=(if i<c then piv i else 1)*pivT T (s p) c (swp s c p i) (cl n j):=by
  intro i hi I j U;unfold pivT;rw[if_neg (M i hi I)];unfold elim;by_cases K:swpR R c p i c=0
  ·rw[if_pos (Or.inr (Or.inl K)),V i hi I j U];rw[V i hi I c Oo,a4]at K;by_cases e3:i<c
   ·rw[if_pos e3]at K ⊢;have:=h.pivne i e3;rcases Rat.mul_eq_zero.1 K with e|e;exact absurd e this;rw[e];grind
   rw[if_neg e3]at K ⊢;have:T (swp s c p i) c=0:=Rr;rw[this];grind
  by_cases O:j<c
  ·rw[if_pos (Or.inr (Or.inr O)),V i hi I j U];have hz:T (s p) (cl n j)=0:=by
    rw[show cl n j=j from if_neg Oo];have:=h.inv.unit (s p) (h.lt p hp) (s j) (h.lt j Oo);rw[h.done j O,if_neg (λe=>by have:=h.inj p hp j Oo e;omega)]at this;exact this
   rw[hz];grind
  rw[if_neg (λe=>by rcases e with e|e|e;exact I e;exact K e;exact O e),V i hi I j U,V i hi I c Oo,a6 c Oo,a6 j U,a4];grind
 obtain⟨D,b0,b1,b7⟩:=h.inv.small (λj U r hr=>by
  unfold solveA;split;exact hw j Oo r hr;split
  ·split;exact⟨1,rfl,Dd⟩;exact⟨0,rfl,Dd⟩
  exact hw n (nR _) r hr)
 refine⟨h.inv.pivot (h.lt p hp) Oo a3,λi hi=>?_,λi hi k hk e=>?_,λi hi=>?_,λi h1 h2=>?_,λi hi j U=>?_,λi h1 h2 j U=>?_,λi hi=>?_,λi hi=>?_⟩
 ·unfold swp;split;exact h.lt p hp;split;exact h.lt c hc;exact h.lt i hi
 ·by_cases K:i=c
  ·by_cases O:k=c;omega;exfalso;rw[show swp s c p i=s p from if_pos K]at e;exact M k hk O e.symm
  by_cases O:k=c;exfalso;rw[show swp s c p k=s p from if_pos O]at e;exact M i hi K e;unfold swp at e;rw[if_neg K,if_neg O]at e;by_cases e3:i=p
  ·by_cases e4:k=p;omega;rw[if_pos e3,if_neg e4]at e;exact absurd (h.inj c hc k hk e) Oo
  by_cases e4:k=p;rw[if_neg e3,if_pos e4]at e;exact absurd (h.inj i hi c hc e) Oo;rw[if_neg e3,if_neg e4]at e;exact h.inj i hi k hk e
 ·by_cases K:i=c;rw[show swp s c p i=s p from if_pos K];show(if s p=s p then c else _)=i;rw[if_pos rfl,K];have h3:=M i Oo K;show(if swp s c p i=s p then c else B (swp s c p i))=i;rw[if_neg h3,show swp s c p i=s i by unfold swp;rw[if_neg K,if_neg Oo]];exact h.done i Oo
 ·have h3:=M i h2 Oo;show(if swp s c p i=s p then c else B (swp s c p i))=n+swp s c p i;rw[if_neg h3];unfold swp;rw[if_neg Oo];split;exact h.todo c Oo hc;exact h.todo i Oo h2
 ·by_cases K:i=c;subst K;rw[show elim (swpR R i p) i i j=swpR R i p i j from if_pos (Or.inl rfl),a6 j U,if_pos rfl,show swp s i p i=s p from if_pos rfl];rw[show pivT T (s p) i (s p) (cl n j)=T (s p) (cl n j) / T (s p) i from if_pos rfl];grind;rw[a5 i Oo K j U,if_pos Oo,if_neg K]
 rw[a5 i h2 Oo j U,if_neg Oo];grind
 ·split;exact a3;exact h.pivne i Oo
 split;exact⟨D,b0,b1,b7 (s p) (h.lt p hp) c Oo⟩;exact h.pivsm i Oo
theorem gj_stuck{n c:Nat}{R0 R T:Nat->Nat->Rat}{B s:Nat->Nat}{piv:Nat->Rat}(h:GJ n c R0 R T B s piv)(hc:c<n)(hz:∀p,c<=p->p<n->R p c=0):
 ∃d:Nat->Rat,d c=1/\∀r,r<n->sm n (λj=>R0 r j*d j)=0:=by
 have U:∀i,i<n->(∃k,k<n/\s k=i):=by
  intro i hi;by_cases hex:∃k,k<n/\s k=i;exact hex;exfalso;have I:∀k,k<n->s k≠i:=λk O e=>hex ⟨k,O,e⟩;obtain⟨n',rfl⟩:∃n',n=n'+1:=⟨n-1,Oo⟩;obtain⟨p,q,K,h2,h3⟩:=Uw n' (λk=>qx i (s k)) (λk O=>by
   have K:=h.lt k Oo;have h2:=I k Oo;show qx i (s k)<n';unfold qx;split <;> omega)
  have h4:=I p Oo;have h5:=I q Oo;have h6:s p=s q:=by
   have M:qx i (s p)=qx i (s q):=h3;unfold qx at M;split at M <;> split at M <;> omega
  have:=h.inj p Oo q Oo h6;omega
 have a3:∀p,c<=p->p<n->T (s p) c=0:=by
  intro p K h2;have:=h.rowt p K h2 c Oo;rw[hz p K h2,show cl n c=c from if_neg Oo]at this;exact this.symm
 have a4:∀i,i<n->B i≠c:=by
  intro i hi e;obtain⟨k,O,rfl⟩:=U i hi;by_cases V:k<c;rw[h.done k V]at e;omega;rw[h.todo k Oo O]at e;omega
 refine⟨ray n T B c,?_,λr hr=>?_⟩;unfold ray;rw[if_pos rfl,val_not a4];grind;have K:=h.inv.hom_ray (show c<n+n by omega) r hr;rw[sm_app]at K;have e1:sm n (λi=>ray n T B c (n+i)*solveA n R0 (n+i) r)=0:=by
  refine sm_zero (λi hi=>?_);have:ray n T B c (n+i)=0:=by
   unfold ray;rw[if_neg Oo];have:val n (λi=>- T i c) B (n+i)=0:=by
    refine sm_zero (λk O=>?_);split
    ·rename_i e;obtain⟨q,hq,rfl⟩:=U k O;by_cases V:q<c;rw[h.done q V]at e;omega;show-T (s q) c=0;rw[a3 q Oo hq];grind
    rfl
   rw[this];grind
  rw[this];grind
 rw[e1]at K;have V:sm n (λj=>R0 r j*ray n T B c j)=sm n (λj=>ray n T B c j*solveA n R0 j r):=sm_congr (λj hj=>by
  unfold solveA;rw[if_pos hj];grind)
 rw[V];grind
theorem gj_end{n:Nat}{R0 R T:Nat->Nat->Rat}{B s:Nat->Nat}{piv:Nat->Rat}(h:GJ n n R0 R T B s piv):
 (∀i,i<n->R i i≠0/\R i n / R i i=T (s i) (n+n))/\
 ∀x:Nat->Rat,(∀r,r<n->sm n (λj=>R0 r j*x j)=R0 r n)->∀i,i<n->x i=T (s i) (n+n):=by
 have O:∀i,i<n->∀j,j<n->T (s i) j=if i=j then 1 else 0:=by
  intro i hi j I;have:=h.inv.unit (s i) (h.lt i hi) (s j) (h.lt j I);rw[h.done j I]at this;rw[this];by_cases e:i=j;rw[if_pos e,if_pos (by rw[e])];rw[if_neg e,if_neg (λK=>e (h.inj i hi j I K))]
 refine⟨λi hi=>?_,λx hx i hi=>?_⟩;have M:=h.rowd i hi i Oo;have h2:=h.rowd i hi n (nR _);rw[show cl n i=i from if_neg Oo,O i hi i hi,if_pos rfl]at M;rw[show cl n n=n+n from if_pos rfl]at h2;have h3:=h.pivne i hi;rw[M,h2];constructor <;> grind;have hs:Sol n (n+n) (solveA n R0) (λj=>if j<n then x j else 0):=by
  intro r hr;rw[sm_app];have U:sm n (λj=>(if j<n then x j else 0)*solveA n R0 j r)=sm n (λj=>R0 r j*x j):=sm_congr (λj I=>by
   unfold solveA;rw[if_pos I,if_pos I];grind)
  have K:sm n (λi=>(if n+i<n then x (n+i) else 0)*solveA n R0 (n+i) r)=0:=sm_zero (λi _=>by rw[if_neg Oo];grind);rw[U,K,hx r hr];unfold solveA;rw[if_neg Oo,if_neg Oo];grind
 have M:=h.inv.sol_rows hs (s i) (h.lt i hi);rw[<-M,sm_app];have U:sm n (λj=>T (s i) j*(if j<n then x j else 0))=x i:=by
  rw[sm_single (k:=i) hi];rw[O i hi i hi,if_pos rfl,if_pos hi];grind;intro j I V;rw[O i hi j I,if_neg (λe=>V e.symm)];grind
 have K:sm n (λk=>T (s i) (n+k)*(if n+k<n then x (n+k) else 0))=0:=sm_zero (λk _=>by rw[if_neg Oo];grind);rw[U,K];grind
end Go.Proofs.YtcnfapnfmnolbaaGreat.Cov
namespace Go.Proofs.YtcnfapnfmnolbaaGreat
open Go.RowKit
def enc(q:Rat):Value:=.agg #[ai q.num,ai q.den]
theorem qAK(b:Int)(g:Nat)(h:0<=b):b.tdiv (g:Int)=((b.natAbs / g:Nat):Int):=by
 have e:=Int.ofNat_tdiv b.natAbs g;rw[show((b.natAbs:Nat):Int)=b by omega]at e;rw[<-e]
theorem qCZ(a b:Int)(h:b≠0):RatM.frN a b=(Rat.divInt a b).num/\RatM.frD a b=((Rat.divInt a b).den:Int):=by
 have I:((Int.gcd a b:Nat):Int) ∣ a:=Int.gcd_dvd_left ..;have K:=RatM.gcd_pos a b h;rw[Rat.num_divInt,Rat.den_divInt,if_neg h,Int.gcd_comm b a];unfold RatM.frN RatM.frD;by_cases hb:b<0
 ·rw[if_pos hb,if_pos hb,Int.sign_eq_neg_one_of_neg hb];refine⟨?_,?_⟩;rw[Int.tdiv_eq_ediv_of_dvd ((Int.dvd_neg).2 I)];congr 1;omega;rw[show -b=((b.natAbs:Nat):Int)by omega,Int.ofNat_tdiv]
 rw[if_neg hb,if_neg hb,Int.sign_eq_one_of_pos Oo];refine⟨?_,?_⟩;rw[Int.tdiv_eq_ediv_of_dvd I];congr 1;omega;generalize Int.gcd a b=g;rw[qAK b g Oo]
theorem uR(a b:Int)(h:b≠0)(q:Rat)(hq:q=Rat.divInt a b):(.agg #[ai (RatM.frN a b),ai (RatM.frD a b)]:Value)=enc q:=by
 obtain⟨I,K⟩:=qCZ a b h;unfold enc;rw[I,K,hq]
def Sm(B:Nat)(q:Rat):Prop:=q.num.natAbs<=B/\q.den<=B
theorem Sm.mono{B C:Nat}{q:Rat}(h:Sm B q)(I:B<=C):Sm C q:=⟨by have:=h.1;omega,by have:=h.2;omega⟩
theorem zv{a b:Int}{B C:Nat}(I:a.natAbs<=B)(hb:b.natAbs<=C)(K:B*C<=4500000000000000000):-4500000000000000000<=a*b/\a*b<=4500000000000000000:=by
 have M:(a*b).natAbs<=B*C:=by rw[Int.natAbs_mul];exact Nat.mul_le_mul I hb
 omega
theorem zV{q:Rat}{D:Int}{Z B:Nat}(K:D≠0)(hD:D.natAbs<=B)(hz:Cov.Whole Z (q*D))(hZ:Z<=B):Sm B q:=by
 obtain⟨z,h1,h2⟩:=hz;have I:((q.den:Nat):Int)≠0:=by have:=q.den_nz;omega
 have e:Rat.divInt q.num q.den=Rat.divInt z D:=by
  rw[Rat.num_divInt_den,Rat.divInt_eq_div];have:((D:Int):Rat)≠0:=by
   intro e;apply K;have:=congrArg Rat.num e;simpa using this
  rw[<-h1];grind
 rw[Rat.divInt_eq_divInt_iff I K]at e;have V:=q.reduced;have M:q.den ∣ D.natAbs:=by
  have:q.den ∣ q.num.natAbs*D.natAbs:=by
   rw[<-Int.natAbs_mul,e,Int.natAbs_mul,Int.natAbs_natCast];exact Nat.dvd_mul_left _ _
  exact(Nat.Coprime.symm V).dvd_of_dvd_mul_left this
 have O:q.num.natAbs ∣ z.natAbs:=by
  have:q.num.natAbs ∣ z.natAbs*q.den:=by
   have e2:=congrArg Int.natAbs e;rw[Int.natAbs_mul,Int.natAbs_mul,Int.natAbs_natCast]at e2;rw[<-e2];exact Nat.dvd_mul_right _ _
  exact V.dvd_of_dvd_mul_right this
 refine⟨?_,?_⟩
 ·by_cases U:z=0
  ·rw[U,Int.zero_mul]at e;rcases Int.mul_eq_zero.1 e with e|e;rw[e];simp;exact absurd e K
  have:=Nat.le_of_dvd Oo O;omega
 have:=Nat.le_of_dvd Oo M;omega
theorem qBh{p m d:Rat}(I:d≠0)(h:m / d=p):p*d=m:=Rr
theorem Yn(p:Rat):p*(((p.den:Nat):Int):Rat)=((p.num:Int):Rat):=by
 have h:=Rat.num_divInt_den p;rw[Rat.divInt_eq_div]at h;have I:(((p.den:Nat):Int):Rat)≠0:=by
  intro e;have:=congrArg Rat.num e;have K:=p.den_nz;simp at this;omega
 exact qBh I h
theorem Sm.mul{B C:Nat}{p q:Rat}(I:Sm B p)(hq:Sm C q):Sm (B*C) (p*q):=by
 refine zV (D:=((p.den*q.den:Nat):Int)) (Z:=B*C) ?_ ?_ ⟨p.num*q.num,?_,?_⟩ (nR _);have K:=p.den_nz;have M:=q.den_nz;have:=Nat.mul_ne_zero K M;omega;rw[Int.natAbs_natCast];exact Nat.mul_le_mul I.2 hq.2
 ·have O:=Yn p;have U:=Yn q;have V:(((p.den*q.den:Nat):Int):Rat)=(((p.den:Nat):Int):Rat)*(((q.den:Nat):Int):Rat):=by rw[Int.natCast_mul];simp
  have e4:((p.num*q.num:Int):Rat)=((p.num:Int):Rat)*((q.num:Int):Rat):=Ss;rw[V,e4,<-O,<-U];grind
 rw[Int.natAbs_mul];exact Nat.mul_le_mul I.1 hq.1
theorem zP(q:Rat):((q.den:Nat):Int).natAbs=q.den:=Int.natAbs_natCast _
theorem qG9(p q:Rat)(w:World){B C:Nat}(K:Sm B p)(hq:Sm C q)(h:B*C<=4500000000000000000):
 Cl 178 #[enc p,enc q] w λe w'=>e=.returned (enc (p+q))/\Bl w w':=by
 have M:=zv K.1 (show((q.den:Nat):Int).natAbs<=C by rw[zP];exact hq.2) h;have O:=zv (a:=q.num) (b:=(p.den:Int)) (B:=C) (C:=B) hq.1 (by rw[zP];exact K.2) (by rw[Nat.mul_comm];exact h);have U:=zv (a:=(p.den:Int)) (b:=(q.den:Int)) (B:=B) (C:=C) (by rw[zP];exact K.2) (by rw[zP];exact hq.2) h;have I:(p.den:Int)*(q.den:Int)≠0:=Int.mul_ne_zero (by have:=p.den_nz;omega) (by have:=q.den_nz;omega);rw[<-uR (p.num*q.den+q.num*p.den) (p.den*q.den) I (p+q) (by
  rw[<-Rat.divInt_add_divInt _ _ (by have:=p.den_nz;omega) (by have:=q.den_nz;omega),Rat.num_divInt_den,Rat.num_divInt_den])]
 exact YK p.num p.den q.num q.den w M.1 M.2 O.1 O.2 U.1 U.2 I
theorem qGK(p q:Rat)(w:World){B C:Nat}(K:Sm B p)(hq:Sm C q)(h:B*C<=4500000000000000000):
 Cl 150 #[enc p,enc q] w λe w'=>e=.returned (enc (p-q))/\Bl w w':=by
 have M:=zv K.1 (show((q.den:Nat):Int).natAbs<=C by rw[zP];exact hq.2) h;have O:=zv (a:=q.num) (b:=(p.den:Int)) (B:=C) (C:=B) hq.1 (by rw[zP];exact K.2) (by rw[Nat.mul_comm];exact h);have U:=zv (a:=(p.den:Int)) (b:=(q.den:Int)) (B:=B) (C:=C) (by rw[zP];exact K.2) (by rw[zP];exact hq.2) h;have I:(p.den:Int)*(q.den:Int)≠0:=Int.mul_ne_zero (by have:=p.den_nz;omega) (by have:=q.den_nz;omega);rw[<-uR (p.num*q.den-q.num*p.den) (p.den*q.den) I (p-q) (by
  rw[<-Rat.divInt_sub_divInt _ _ (by have:=p.den_nz;omega) (by have:=q.den_nz;omega),Rat.num_divInt_den,Rat.num_divInt_den])]
 exact Zy p.num p.den q.num q.den w M.1 M.2 O.1 O.2 U.1 U.2 I
theorem qGL(p q:Rat)(w:World){B C:Nat}(K:Sm B p)(hq:Sm C q)(h:B*C<=4500000000000000000):
 Cl 235 #[enc p,enc q] w λe w'=>e=.returned (enc (p*q))/\Bl w w':=by
 have M:=zv K.1 hq.1 h;have O:=zv (a:=(p.den:Int)) (b:=(q.den:Int)) (B:=B) (C:=C) (by rw[zP];exact K.2) (by rw[zP];exact hq.2) h;have I:(p.den:Int)*(q.den:Int)≠0:=Int.mul_ne_zero (by have:=p.den_nz;omega) (by have:=q.den_nz;omega);rw[<-uR (p.num*q.num) (p.den*q.den) I (p*q) (by
  rw[<-Rat.divInt_mul_divInt,Rat.num_divInt_den,Rat.num_divInt_den])]
 exact qAe p.num p.den q.num q.den w M.1 M.2 O.1 O.2 I
theorem Qd{q:Rat}(h:q≠0):q.num≠0:=by
 intro e;exact h (Rat.num_eq_zero.1 e)
theorem qGy(p q:Rat)(w:World){B C:Nat}(M:Sm B p)(hq:Sm C q)(h:B*C<=4500000000000000000)(K:q≠0):
 Cl 234 #[enc p,enc q] w λe w'=>e=.returned (enc (p / q))/\Bl w w':=by
 have O:=zv M.1 (show((q.den:Nat):Int).natAbs<=C by rw[zP];exact hq.2) h;have U:=zv (a:=(p.den:Int)) (b:=q.num) (B:=B) (C:=C) (by rw[zP];exact M.2) hq.1 h;have I:(p.den:Int)*q.num≠0:=Int.mul_ne_zero (by have:=p.den_nz;omega) (Qd K);rw[<-uR (p.num*q.den) (p.den*q.num) I (p / q) (by
  rw[<-Rat.divInt_mul_divInt,Rat.num_divInt_den,<-Rat.inv_divInt,Rat.num_divInt_den,Rat.div_def])]
 exact qB8 p.num p.den q.num q.den w O.1 O.2 U.1 U.2 I
def sgR(q:Rat):Int:=if q<0 then -1 else if 0<q then 1 else 0
theorem qE4(q:Rat):RatM.sgn q.num=sgR q:=by
 have M:q<0↔q.num<0:=by
  have:=Rat.num_nonneg (q:=q);constructor
  ·intro h;by_cases e:q.num<0;exact e;have:=this.1 Oo;grind
  intro h;by_cases e:q<0;exact e;have:=this.2 Rr;omega
 have O:0<q↔0<q.num:=by
  have:=Rat.num_nonneg (q:=q);constructor
  ·intro h;have a:=this.2 Rr;by_cases e:q.num=0;rw[Rat.num_eq_zero.1 e]at h;grind;omega
  intro h;have a:=this.1 Oo;by_cases e:q=0;rw[e]at h;simp at h;grind
 unfold RatM.sgn sgR;by_cases I:q<0;rw[if_pos I,if_pos (M.1 I)];rw[if_neg I,if_neg (λh=>I (M.2 h))];by_cases K:0<q;rw[if_pos K,if_pos (O.1 K)];rw[if_neg K,if_neg (λh=>K (O.2 h))]
theorem Xm(q:Rat)(w:World):
 Cl 151 #[enc q] w λe w'=>e=.returned (ai (sgR q))/\Bl w w':=by
 rw[<-qE4];exact YL q.num q.den w
theorem vi{q:Rat}(h:q<0):sgR q=-1:=if_pos h
theorem vk{q:Rat}(h:0<q):sgR q=1:=by unfold sgR;rw[if_neg Rr,if_pos h]
theorem vm{q:Rat}(h:q=0):sgR q=0:=by unfold sgR;rw[if_neg Rr,if_neg Rr]
theorem qE5(n:Int):enc (n:Rat)=.agg #[ai n,ai 1]:=by
 unfold enc;simp
theorem qGM(f:Value)(a b n:Int)(I:f=.agg #[ai a,ai b])(w:World):
 Cl 236 #[f,ai n] w λe w'=>e=.returned (enc (n:Rat))/\Bl w w':=by
 subst I;rw[qE5];go_enter Tryz.func236,Tryz.ntmps236;go_wp2;refine bodyPost_ret (v:=.agg #[ai n,ai 1]) (by simp[results,Tryz.results236,go_sem]) rfl ⟨rfl,?_⟩;go_grown
theorem Xn(p q:Rat)(w:World){B C:Nat}(I:Sm B p)(hq:Sm C q)(h:B*C<=4500000000000000000):
 Cl 150 #[.agg #[ai (p).num,ai (p).den],.agg #[ai (q).num,ai (q).den]] w λe w'=>e=.returned (.agg #[ai (p-q).num,ai (p-q).den])/\Bl w w':=qGK p q w I hq h
theorem qCa(p q:Rat)(w:World){B C:Nat}(I:Sm B p)(hq:Sm C q)(h:B*C<=4500000000000000000):
 Cl 235 #[.agg #[ai (p).num,ai (p).den],.agg #[ai (q).num,ai (q).den]] w λe w'=>e=.returned (.agg #[ai (p*q).num,ai (p*q).den])/\Bl w w':=qGL p q w I hq h
theorem qBi(p q:Rat)(w:World){B C:Nat}(K:Sm B p)(hq:Sm C q)(h:B*C<=4500000000000000000)(I:q≠0):
 Cl 234 #[.agg #[ai (p).num,ai (p).den],.agg #[ai (q).num,ai (q).den]] w λe w'=>e=.returned (.agg #[ai (p / q).num,ai (p / q).den])/\Bl w w':=qGy p q w K hq h I
theorem uN(q:Rat)(w:World):
 Cl 151 #[.agg #[ai (q).num,ai (q).den]] w λe w'=>e=.returned (ai (sgR q))/\Bl w w':=Xm q w
theorem qGN(a b n:Int)(w:World):
 Cl 236 #[.agg #[ai a,ai b],ai n] w λe w'=>e=.returned (.agg #[ai (n:Rat).num,ai (n:Rat).den])/\Bl w w':=qGM _ a b n rfl w
end Go.Proofs.YtcnfapnfmnolbaaGreat
namespace Go.Proofs.YtcnfapnfmnolbaaGreat.Cov
theorem U6{v:Rat}{u:Nat}{x y:Nat->Rat}(h:Lex (key v u x) (key v u y)):v*sm u x<=v*sm u y:=by
 rcases h with h|⟨h,-⟩;grind;grind
theorem Zm{m n:Nat}{A:Nat->Nat->Rat}:∀(l:List (Nat->Rat)) {bar:Nat->Bool} {s:Sx},Good m n A bar s->(∀c∈l,∃L:Rat,∀x,F m n A bar x->L<=dot n c x)->∃I U,Aims m n l bar s I U
 |[],bar,s,_,_=>⟨bar,s,⟨rfl,rfl⟩⟩
 |c::l,bar,s,h,hb=>by
  obtain⟨V,s1,O⟩:=qBf c h;obtain⟨L,hL⟩:=hb c (List.mem_cons_self ..);obtain⟨g1,g2,g3⟩:=Good.aim h O L hL;obtain⟨b2,s2,h2⟩:=Zm l g1 (λc' K=>by
   obtain⟨L',M⟩:=hb c' (mC _ K);exact⟨L',λx hx=>M x (g2 x hx).1⟩)
  exact⟨b2,s2,V,s1,O,h2⟩
theorem qBj{n:Nat}{c x:Nat->Rat}(K:∀j,j<n->0<=c j)(M:∀j,j<n->0<=x j):0<=dot n c x:=
 zn (λj I=>Rat.mul_nonneg (K j I) (M j I))
theorem Qe(a b j:Nat):0<=cf a b 1 j:=by
 unfold cf;split;decide;exact Rat.le_refl
theorem least_cover{m u:Nat}{M:Nat->Nat->Rat}(O:∀r,r<m->∀e,e<u->0<=M r e)(K:∀r,r<m->∃e,e<u/\M r e=1):
 ∃bar s,Good m (u+m+m) (coverA m u M) bar s/\Cover m u M (xb m (u+m+m) s)/\∀y,Cover m u M y->Lex (key 1 u (xb m (u+m+m) s)) (key 1 u y):=by
 obtain⟨bar,s,h⟩:=Zm (m:=m) (n:=u+m+m) (A:=coverA m u M) (cf (u+m) (u+m+m) 1::cf 0 u 1::units u) cover_good (λc I=>by
  refine⟨0,λx U=>qBj (λj _=>?_) (λj V=>U.2.1 j V)⟩;rcases List.mem_cons.1 I with rfl|I;exact Qe _ _ _;rcases List.mem_cons.1 I with rfl|I;exact Qe _ _ _;obtain⟨k,-,rfl⟩:=List.mem_map.1 I;exact Qe _ _ _)
 exact⟨bar,s,cover_least O K h⟩
theorem kept_sum{m u n:Nat}{M K:Nat->Nat->Rat}{rep up:Nat->Nat}{nz:Nat->Bool}
 (hK:∀r,r<m->∀p,p<n->K r p=M r (rep p)) (a3:∀p,p<n->rep p<u)
 (hz:∀e,e<u->nz e=false->∀r,r<m->M r e=0)
 (a4:∀e,e<u->nz e=true->up e<n/\∀r,r<m->M r e<=M r (rep (up e)))
 {x y:Nat->Rat} (hx:Cover m u M x) (a5:∀z,Cover m u M z->Lex (key 1 u x) (key 1 u z))
 (hy:Cover m n K y) (a6:∀z,Cover m n K z->Lex (key 1 n y) (key 1 n z)):sm u x=sm n y:=by
 have one:∀p,p<n->∀f:Nat->Rat,sm u (λe=>f e*(if rep p=e then y p else 0))=f (rep p)*y p:=by
  intro p O f;rw[sm_single (k:=rep p) (a3 p O)];simp;intro i _ hi;have:rep p≠i:=λh=>hi h.symm;simp[this]
 have two:∀f:Nat->Rat,sm u (λe=>f e*sm n (λp=>if rep p=e then y p else 0))=sm n (λp=>f (rep p)*y p):=by
  intro f;have e1:sm u (λe=>f e*sm n (λp=>if rep p=e then y p else 0))=sm u (λe=>sm n (λp=>f e*(if rep p=e then y p else 0))):=
   sm_congr (λe _=>(sm_mul n (f e) _).symm)
  rw[e1,uy];exact sm_congr (λp O=>one p O f)
 have c1:Cover m u M (λe=>sm n (λp=>if rep p=e then y p else 0)):=by
  refine⟨λe _=>zn (λp O=>?_),λr V=>?_⟩
  ·split;exact hy.1 p O;exact Rat.le_refl
  show 1<=sm u (λe=>M r e*sm n (λp=>if rep p=e then y p else 0));rw[two (M r)];have:=hy.2 r V;rw[sm_congr (λp O=>by rw[hK r V p O])]at this;exact this
 have s1:sm u (λe=>sm n (λp=>if rep p=e then y p else 0))=sm n y:=by
  have:=two (λ_=>1);rw[sm_congr (g:=λe=>sm n (λp=>if rep p=e then y p else 0)) (λe _=>Rr),sm_congr (n:=n) (g:=y) (λe _=>Rr)]at this;exact this
 have l1:sm u x<=sm n y:=by
  have:=U6 (a5 _ c1);rw[s1]at this;grind
 have three:∀f:Nat->Rat,sm n (λp=>f p*sm u (λe=>if nz e=true/\up e=p then x e else 0))=sm u (λe=>if nz e=true then f (up e)*x e else 0):=by
  intro f;have e1:sm n (λp=>f p*sm u (λe=>if nz e=true/\up e=p then x e else 0))=sm n (λp=>sm u (λe=>f p*(if nz e=true/\up e=p then x e else 0))):=
   sm_congr (λp _=>(sm_mul u (f p) _).symm)
  rw[e1,uy];refine sm_congr (λe U=>?_);by_cases I:nz e=true
  ·rw[if_pos I,sm_single (k:=up e) (a4 e U I).1];simp[I];intro p _ O;have:¬(nz e=true/\up e=p):=λh=>O h.2.symm;rw[if_neg this];grind
  rw[if_neg I];refine sm_zero (λp _=>?_);rw[if_neg (λh=>I h.1)];grind
 have c2:Cover m n K (λp=>sm u (λe=>if nz e=true/\up e=p then x e else 0)):=by
  refine⟨λp _=>zn (λe U=>?_),λr V=>?_⟩
  ·split;exact hx.1 e U;exact Rat.le_refl
  show 1<=sm n (λp=>K r p*sm u (λe=>if nz e=true/\up e=p then x e else 0));rw[three (K r)];have h1:=hx.2 r V;have h2:sm u (λe=>M r e*x e)<=sm u (λe=>if nz e=true then K r (up e)*x e else 0):=by
   refine qBe (λe U=>?_);by_cases I:nz e=true;rw[if_pos I];obtain⟨a7,a8⟩:=a4 e U I;rw[hK r V _ a7];have h3:=a8 r V;have h4:=hx.1 e U;exact Rat.mul_le_mul_of_nonneg_right h3 h4;rw[if_neg I,hz e U (by simpa using I) r V];grind
  grind
 have l2:sm n y<=sm u x:=by
  have:=U6 (a6 _ c2);have h2:=three (λ_=>1);have h3:sm u (λe=>if nz e=true then 1*x e else 0)<=sm u x:=by
   refine qBe (λe U=>?_);by_cases I:nz e=true;rw[if_pos I];grind;rw[if_neg I];exact hx.1 e U
  rw[sm_congr (n:=n) (g:=λp=>sm u (λe=>if nz e=true/\up e=p then x e else 0)) (λe _=>Rr)]at h2;grind
 grind
end Go.Proofs.YtcnfapnfmnolbaaGreat.Cov
